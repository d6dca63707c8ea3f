/- Ported. -/
import Derived.Test.YtjhbgedobkpdhaaGreatEg
import Derived.BigQuiet
import Derived.BigRegion
import Derived.Deep.DeepCutAuto
import Derived.Deep.DeepFit
import Derived.Deep.Onto
import Derived.Deep.QuietTactic
import Derived.Deep.RegionHeld3
import Derived.Handy
import Derived.Laws.AppendOwn
import Derived.Laws.Bits64b
import Derived.Lib.Hide
import Derived.Lib.Mul64
import Derived.Maps.AppendAt
import Derived.OpenShut
import Derived.Outline
import Derived.OwnWalk
import Derived.ProofKit
import Derived.ScopeJumps
import Derived.WalkKit
import Derived.WalkMore
import Derived.WalkSpells
namespace Go.Proofs.YtjhbgedobkpdhaaGreat
set_option linter.unusedVariables false
set_option maxRecDepth 20000
set_option linter.unusedSimpArgs false
open Go.ChangeShapes Go.WideShapes Go.ChangeAt Go.RowKit
theorem rhas_any (ao : Option Addr) (n c : Nat) (l : List Sp) (t : Int) (w : World) (hw : SpAt w ao n c l) (r : Bool) (hr : r = true ↔ mem l t) :
    Calls Tryz.prog 28 #[.slice ao n c, .int .i64 t] w fun e w' => e = .returned (.bool r) ∧ w = w' := by
  have HW := Lib.hid hw
  have HR := Lib.hid hr
  have HLN := Lib.hid hw.len
  have hmx : n ≤ 9223372036854775807 := Nat.le_trans hw.le hw.top
  clear hw hr
  go_enter Tryz.func28, Tryz.ntmps28
  go_wp2
  go_loop [5] (fun i => ∃ k : Nat, k ≤ n ∧ i = .int .i64 k ∧ Hid (¬ mem (l.take k) t)) (fun i => n - (intOf i).toNat)
  case atStart => exact ⟨0, Nat.zero_le _, rfl, Lib.hid (mem_nil t)⟩
  case round =>
    obtain ⟨k, hk, rfl, HN⟩ := hrel
    by_cases hlt : k < n
    · obtain ⟨b, p, rfl, hc⟩ := HW.out.here (by omega)
      have hkl : k < l.length := by rw [HLN.out]; exact hlt
      obtain ⟨c1, c2⟩ := hc k hkl
      have hts := mem_take_snoc l k hkl t
      have HT := Lib.hid hts
      have HY : Hid (l[k].1 ≤ t ∧ t ≤ l[k].2 → true = r) := Lib.hid (fun z => (HR.out.2 ⟨l[k], List.getElem_mem hkl, z.1, z.2⟩).symm)
      clear hts hc
      obtain ⟨x, hx⟩ : ∃ q, l[k].1 = q := ⟨_, rfl⟩
      obtain ⟨y, hy⟩ : ∃ q, l[k].2 = q := ⟨_, rfl⟩
      rw [hx] at c1 HT HY
      rw [hy] at c2 HT HY
      clear hx hy
      have i0 : (0 : Int) ≤ (k : Int) := by omega
      have i1 : (k : Int) < (n : Int) := by omega
      by_cases h1 : x ≤ t
      · by_cases h2 : t ≤ y
        · have HE := Lib.hid (HY.out ⟨h1, h2⟩)
          clear HT HY
          go_wp2
          go_returns
          exact ⟨ret_bool HE.out, rfl⟩
        · have HN2 : Hid (¬ mem (l.take (k + 1)) t) := Lib.hid (fun z => by rcases HT.out.1 z with z | z; exact HN.out z; omega)
          clear HT HY
          go_wp2
          go_round
          case rel => exact ⟨k + 1, by omega, by go_num, HN2⟩
          case measure => simp [intOf]; omega
      · have HN2 : Hid (¬ mem (l.take (k + 1)) t) := Lib.hid (fun z => by rcases HT.out.1 z with z | z; exact HN.out z; omega)
        clear HT HY
        go_wp2
        go_round
        case rel => exact ⟨k + 1, by omega, by go_num, HN2⟩
        case measure => simp [intOf]; omega
    · have HE : Hid (false = r) := Lib.hid (by
        have h := HN.out
        rw [List.take_of_length_le (by rw [HLN.out]; omega)] at h
        cases r
        · rfl
        · exact absurd (HR.out.1 rfl) h)
      go_wp2
      go_returns
      exact ⟨ret_bool HE.out, rfl⟩
/-- The document's in, of a kind. -/
def inB (k : Int) (p q : Bool) : Bool := if k = 1 then p || q else if k = 2 then p && q else p && !q
theorem in_any (k : Int) (p q : Bool) (w : World) : Calls Tryz.prog 69 #[.int .i64 k, .bool p, .bool q] w fun e w' => e = .returned (.bool (inB k p q)) ∧ w = w' := by
  by_cases h1 : k = 1
  · subst h1
    cases p <;> cases q <;> (go_enter Tryz.func69, Tryz.ntmps69; go_wp2; go_returns; exact ⟨rfl, rfl⟩)
  · have t1 : (k == 1) = false := by simp; exact h1
    by_cases h2 : k = 2
    · subst h2
      clear h1
      cases p <;> cases q <;> (go_enter Tryz.func69, Tryz.ntmps69; go_wp2; go_returns; exact ⟨rfl, rfl⟩)
    · have t2 : (k == 2) = false := by simp; exact h2
      have e : ∀ p q, inB k p q = (p && !q) := fun p q => by unfold inB; rw [if_neg h1, if_neg h2]
      have HE := Lib.hid e
      clear e h1 h2
      cases p <;> cases q <;> (go_enter Tryz.func69, Tryz.ntmps69; go_wp2; go_returns; exact ⟨by rw [HE.out]; rfl, rfl⟩)
theorem moved_snoc (l : List Sp) (i : Nat) (h : i < l.length) (d : Int) : moved (l.take (i + 1)) d = moved (l.take i) d ++ [(l[i].1 + d, l[i].2 + d)] := by
  rw [List.take_succ_eq_append_getElem h]; unfold moved; rw [List.map_append]; rfl
set_option maxHeartbeats 2000000 in
theorem refMove_any (ao : Option Addr) (n c : Nat) (l : List Sp) (ga : Good l) (hn : n ≤ 1000000) (d : Int) (hd1 : -9223372036854775808 ≤ d) (hd2 : d ≤ 9223372036854775807) (w : World) (hl : SpAt w ao n c l) :
    Calls Tryz.prog 58 #[.slice ao n c, .int .i64 d] w fun e w' => ∃ (v : Value) (k : Int), e = .returned (.tuple #[v, .int .i64 k]) ∧ Below w.heap.size w w' ∧
      (((∀ s ∈ l, okSp d s) ∧ k = 0 ∧ w'.ownsRow w.heap.size 38 2 v n (spCells (moved l d))) ∨ ((∃ s ∈ l, ¬ okSp d s) ∧ k = 20 ∧ v = .slice none 0 0)) := by
  obtain ⟨i0, hi, hz0, hz1, hz2⟩ := info_parts info38
  have HI := Lib.hid hi
  have HZ0 := Lib.hid hz0
  have HZ1 := Lib.hid hz1
  have HZ2 := Lib.hid hz2
  have HL := Lib.hid hl
  have HG := Lib.hid ga
  have LN := Lib.hid hl.len
  clear hi hz0 hz1 hz2 hl ga
  go_enter Tryz.func58, Tryz.ntmps58
  go_wp2
  go_loopw [6, 7] (fun v ii wr => ∃ i : Nat, i ≤ n ∧ ii = .int .i64 i ∧ Hid (wr.ownsRow w.heap.size 38 2 v i (spCells (moved (l.take i) d))) ∧ Hid (∀ s ∈ l.take i, okSp d s) ∧ Hid (Below w.heap.size w wr)) (fun _ ii _ => n - (intOf ii).toNat)
  case atStart => exact ⟨0, Nat.zero_le _, rfl, Lib.hid (World.ownsRow_nil _ _ _ _), Lib.hid (fun s h => by cases h), Lib.hid (Below.refl _ _)⟩
  case round =>
    obtain ⟨i, hi, rfl, HO, HS, HW⟩ := hrel
    by_cases ilt : i < n
    · obtain ⟨b, p, rfl, hc⟩ := HL.out.here (by omega)
      have hil : i < l.length := by rw [LN.out]; exact ilt
      have c1 := cell_keep (hc i hil).1 HW.out
      have c2 := cell_keep (hc i hil).2 HW.out
      have g1 := good_at HG.out i hil
      have HT := Lib.hid (fun s => mem_take_succ (s := s) hil)
      have HM := Lib.hid (List.getElem_mem hil)
      have HSN := Lib.hid (moved_snoc l i hil d)
      have i0' : (0 : Int) ≤ (i : Int) := by omega
      have i1' : (i : Int) < (n : Int) := by omega
      clear hc
      obtain ⟨s, hs⟩ : ∃ z, l[i] = z := ⟨_, rfl⟩
      rw [hs] at c1 c2 g1 HT HM HSN
      clear hs hil
      obtain ⟨x, y⟩ := s
      simp only at c1 c2 g1 HSN
      obtain ⟨g1, g2, g3⟩ := g1
      by_cases h1 : 1099511627776 - y < d
      · have HNO : Hid (¬ okSp d (x, y)) := Lib.hid (fun q => by have := q.2.2; simp only at this; omega)
        go_wp2
        go_returns
        first | exact ⟨_, _, rfl, HW.out, .inr ⟨⟨_, HM.out, HNO.out⟩, rfl, rfl⟩⟩ | exact ⟨_, _, rfl, HW.out, .inr ⟨⟨_, _, HM.out, HNO.out⟩, rfl, rfl⟩⟩
      · by_cases h2 : d < -1099511627776 - x
        · have HNO : Hid (¬ okSp d (x, y)) := Lib.hid (fun q => by have := q.1.1; simp only at this; omega)
          go_wp2
          go_returns
          first | exact ⟨_, _, rfl, HW.out, .inr ⟨⟨_, HM.out, HNO.out⟩, rfl, rfl⟩⟩ | exact ⟨_, _, rfl, HW.out, .inr ⟨⟨_, _, HM.out, HNO.out⟩, rfl, rfl⟩⟩
        · have HOK : Hid (okSp d (x, y)) := Lib.hid ⟨⟨by simp only; omega, by simp only; omega⟩, by simp only; omega, by simp only; omega⟩
          have HS2 : Hid (∀ s ∈ l.take (i + 1), okSp d s) := Lib.hid (fun s hs => by rcases (HT.out s).1 hs with h | rfl; exact HS.out s h; exact HOK.out)
          have e1 : IntKind.i64.wrap (x + d) = x + d := IntWalk.i64_in _ (by omega)
          have e2 : IntKind.i64.wrap (y + d) = y + d := IntWalk.i64_in _ (by omega)
          have HC : Hid (spCells (moved (l.take i) d) ++ [.int .i64 (x + d), .int .i64 (y + d)] = spCells (moved (l.take (i + 1)) d)) := Lib.hid (by rw [HSN.out, spCells_snoc])
          clear HT HSN HS
          go_upto_region 7 with fail
          go_region_law (refine step_append_lies _ rfl _ _ 27 rfl w.heap.size 38 i0 (.agg #[.int .i64 0, .int .i64 0]) 2 16 Tryz.underlying27 HI.out HZ0.out HZ1.out HZ2.out rfl (by decide) u6 i _ rfl (keepB HO.out (((Below.refl _ wr).drew).alloc (Nat.le_refl _) _)) ⟨wr.heap.size, 0, none⟩ 1 1 [.int .i64 (x + d), .int .i64 (y + d)] rfl rfl (cells_new2 wr.drew _ _ _) (by intro z hz; simp at hz; rcases hz with rfl | rfl <;> rfl) (by decide) (by unfold maxLen; omega) (by omega) (by have := HW.out.size; simp; omega) _ rfl ?_; intro g cap w1 hown hgrow hat hlt; rw [HC.out] at hown; have HO2 := Lib.hid hown; have HB2 := Lib.hid ((HW.out.trans ((((Below.refl _ wr).drew).alloc (Nat.le_refl _) _).mono HW.out.size)).grown hgrow (Nat.le_trans HW.out.size (by simp)) (fun q hq => (HO.out.lt q hq).1)); clear hown hgrow hat)
          all_goals
            clear e1 e2
            go_wp2
            go_roundw
            case rel => exact ⟨i + 1, by omega, by go_num, HO2, HS2, HB2⟩
            case measure => simp [intOf]; omega
    · obtain rfl : i = n := by omega
      have HT : Hid (l.take i = l) := Lib.hid (List.take_of_length_le (by rw [LN.out]; exact Nat.le_refl _))
      rw [HT.out] at HO HS
      go_wp2
      go_returns
      exact ⟨_, _, rfl, HW.out, .inl ⟨HS.out, rfl, HO.out⟩⟩
theorem snoc_ind {α : Type} {motive : List α → Prop} (nil : motive []) (append_singleton : ∀ (l : List α) (y : α), motive l → motive (l ++ [y])) (l : List α) : motive l := by
  rw [← List.reverse_reverse l]
  induction l.reverse with
  | nil => exact nil
  | cons a r ih => rw [List.reverse_cons]; exact append_singleton _ _ ih
/-- One step of insert. -/
def insStep (x : Int) (st : Bool × List Int) (y : Int) : Bool × List Int :=
  if y = x then (true, st.2 ++ [y]) else if st.1 = false ∧ x < y then (true, st.2 ++ [x] ++ [y]) else (st.1, st.2 ++ [y])
def insRun (x : Int) (l : List Int) : Bool × List Int := l.foldl (insStep x) (false, [])
def ins (x : Int) (l : List Int) : List Int := if (insRun x l).1 then (insRun x l).2 else (insRun x l).2 ++ [x]
theorem insRun_snoc (x : Int) (l : List Int) (y : Int) : insRun x (l ++ [y]) = insStep x (insRun x l) y := by
  unfold insRun; rw [List.foldl_append]; rfl
/-- Rising, all below a number. -/
def Up : List Int → Prop
  | [] => True
  | [_] => True
  | a :: b :: r => a < b ∧ Up (b :: r)
abbrev Inc (l : List Int) : Prop := l.Pairwise (· < ·)
theorem insRun_ok (x : Int) (l : List Int) (h : Inc l) :
    ((insRun x l).1 = false → (∀ y ∈ l, y < x) ∧ (insRun x l).2 = l) ∧
    ((insRun x l).1 = true → (∃ y ∈ l, x ≤ y) ∧ Inc (insRun x l).2 ∧ (∀ t, t ∈ (insRun x l).2 ↔ t ∈ l ∨ t = x) ∧ (insRun x l).2.length ≤ l.length + 1) := by
  induction l using snoc_ind with
  | nil => exact ⟨fun _ => ⟨(fun y hy => by cases hy), rfl⟩, (fun h => by cases h)⟩
  | append_singleton l y ih =>
    rw [Inc, List.pairwise_append] at h
    obtain ⟨h1, _, h3⟩ := h
    have ih := ih h1
    have hy : ∀ t ∈ l, t < y := fun t ht => h3 t ht y (List.mem_singleton.2 rfl)
    rw [insRun_snoc]
    unfold insStep
    cases hb : (insRun x l).1
    · obtain ⟨q1, q2⟩ := ih.1 hb
      by_cases e : y = x
      · rw [if_pos e]
        subst e
        refine ⟨(fun h => by cases h), fun _ => ⟨⟨y, by simp, Int.le_refl _⟩, ?_, ?_, ?_⟩⟩
        · rw [q2, Inc, List.pairwise_append]; exact ⟨h1, by simp, h3⟩
        · intro t; rw [q2]; simp
        · rw [q2]; simp
      · rw [if_neg e]
        by_cases e2 : x < y
        · rw [if_pos ⟨rfl, e2⟩]
          refine ⟨(fun h => by cases h), fun _ => ⟨⟨y, by simp, by omega⟩, ?_, ?_, ?_⟩⟩
          · rw [q2, Inc, List.pairwise_append, List.pairwise_append]
            refine ⟨⟨h1, by simp, fun a ha b hb => ?_⟩, by simp, fun a ha b hb => ?_⟩
            · rw [List.mem_singleton.1 hb]; exact q1 a ha
            · rw [List.mem_singleton.1 hb]
              rcases List.mem_append.1 ha with ha | ha
              · exact hy a ha
              · rw [List.mem_singleton.1 ha]; exact e2
          · intro t; rw [q2]; simp only [List.mem_append, List.mem_singleton]; constructor
            · rintro ((z | z) | z)
              · exact .inl (.inl z)
              · exact .inr z
              · exact .inl (.inr z)
            · rintro ((z | z) | z)
              · exact .inl (.inl z)
              · exact .inr z
              · exact .inl (.inr z)
          · rw [q2]; simp
        · rw [if_neg (by simp [e2])]
          refine ⟨fun _ => ⟨?_, by rw [q2]⟩, fun h => ?_⟩
          · intro t ht
            rcases List.mem_append.1 ht with ht | ht
            · exact q1 t ht
            · rw [List.mem_singleton.1 ht]; omega
          · simp at h
    · obtain ⟨⟨z, q1, q1'⟩, q2, q3, q4⟩ := ih.2 hb
      have hz := hy z q1
      rw [if_neg (by omega), if_neg (by simp)]
      refine ⟨(fun h => by simp at h), fun _ => ⟨⟨y, by simp, by omega⟩, ?_, ?_, ?_⟩⟩
      · rw [Inc, List.pairwise_append]
        refine ⟨q2, by simp, fun a ha b hb => ?_⟩
        rw [List.mem_singleton.1 hb]
        rcases (q3 a).1 ha with ha | rfl
        · exact hy a ha
        · omega
      · intro t; simp only [List.mem_append, List.mem_singleton, q3]; constructor
        · rintro ((z | z) | z)
          · exact .inl (.inl z)
          · exact .inr z
          · exact .inl (.inr z)
        · rintro ((z | z) | z)
          · exact .inl (.inl z)
          · exact .inr z
          · exact .inl (.inr z)
      · simp; omega
theorem ins_ok {x : Int} {l : List Int} (h : Inc l) : Inc (ins x l) ∧ (∀ t, t ∈ ins x l ↔ t ∈ l ∨ t = x) ∧ (ins x l).length ≤ l.length + 1 := by
  have q := insRun_ok x l h
  unfold ins
  cases hb : (insRun x l).1
  · obtain ⟨q1, q2⟩ := q.1 hb
    rw [if_neg (by simp), q2]
    refine ⟨?_, ?_, ?_⟩
    · rw [Inc, List.pairwise_append]; exact ⟨h, by simp, fun a ha b hb => by rw [List.mem_singleton.1 hb]; exact q1 a ha⟩
    · intro t; simp
    · simp
  · obtain ⟨_, q2, q3, q4⟩ := q.2 hb
    rw [if_pos rfl]
    exact ⟨q2, q3, q4⟩
theorem insRun_len (x : Int) (l : List Int) : (insRun x l).2.length ≤ 2 * l.length := by
  induction l using snoc_ind with
  | nil => simp [insRun]
  | append_singleton l y ih => rw [insRun_snoc]; unfold insStep; split <;> (try split) <;> simp <;> omega
/-- A slice of numbers. -/
def inC (l : List Int) : List Value := l.map (Value.int .i64)
theorem own_cell1 {w : World} {B n : Nat} {v : Value} {l : List Int} {g c p k : Nat} (h : w.ownsRow B 3 1 v n (inC l)) (e : v = .slice (some ⟨g, p, none⟩) k c) (i : Nat) (hi : i < l.length) : p = 0 ∧ k = n ∧ n ≤ c ∧ w.cell? ⟨g, i, none⟩ = some (.int .i64 l[i]) := by
  have hc := h
  rcases h.2 with ⟨rfl, _⟩ | ⟨g', cap, cur, rfl, h2, h3, h4, h5, h6⟩
  · cases e
  · cases e
    have z := hc.cells (g := g) rfl i (.int .i64 l[i]) (by simp [inC, hi])
    rw [add_off, Nat.zero_add] at z
    exact ⟨rfl, rfl, h4, z⟩
/-- A slice that reads as numbers. -/
structure IntAt (w : World) (ao : Option Addr) (n c : Nat) (l : List Int) : Prop where
  len : l.length = n
  le : n ≤ c
  top : c ≤ 9223372036854775807
  bare : ao = none → n = 0 ∧ c = 0
  here : 0 < n → ∃ b p, ao = some ⟨b, p, none⟩ ∧ ∀ i (h : i < l.length), w.cell? ⟨b, p + i, none⟩ = some (.int .i64 l[i])
theorem IntAt.keep {w w' : World} {ao : Option Addr} {n c : Nat} {l : List Int} (h : IntAt w ao n c l) (k : Below w.heap.size w w') : IntAt w' ao n c l :=
  ⟨h.len, h.le, h.top, h.bare, fun h0 => by
    obtain ⟨b, p, e, hc⟩ := h.here h0
    exact ⟨b, p, e, fun i hi => cell_keep (hc i hi) k⟩⟩
theorem IntAt.nil (w : World) : IntAt w none 0 0 [] := ⟨rfl, Nat.le_refl _, by omega, fun _ => ⟨rfl, rfl⟩, fun h => absurd h (Nat.lt_irrefl _)⟩
theorem inC_len (l : List Int) : (inC l).length = l.length := by simp [inC]
theorem inC_snoc (l : List Int) (y : Int) : inC (l ++ [y]) = inC l ++ [.int .i64 y] := by simp [inC]
/-- A slice of the call's own that reads as numbers. -/
theorem own_int {w : World} {B n : Nat} {v : Value} {l : List Int} (hl : l.length = n) (h : w.ownsRow B 3 1 v n (inC l)) : ∃ ao c, v = .slice ao n c ∧ IntAt w ao n c l := by
  have hc := h
  rcases h.2 with ⟨rfl, rfl⟩ | ⟨g, cap, cur, rfl, h2, h3, h4, h5, h6⟩
  · obtain rfl : l = [] := List.eq_nil_of_length_eq_zero hl
    exact ⟨none, 0, rfl, IntAt.nil w⟩
  · refine ⟨some ⟨g, 0, none⟩, cap, rfl, hl, h4, by unfold maxLen at h5; omega, (by intro e; cases e), fun _ => ⟨g, 0, rfl, fun i hi => ?_⟩⟩
    have z := hc.cells (g := g) rfl i (.int .i64 l[i]) (by simp [inC, hi])
    rw [add_off] at z
    exact z
theorem cells_new1 (w : World) (x : Value) (t : TypeId) : ∀ (j : Nat) (u : Value), [x][j]? = some u → (w.alloc (.cells #[x] t)).cell? ((⟨w.heap.size, 0, none⟩ : Addr).add j) = some u := by
  intro j u hu
  match j with
  | 0 => cases hu; rw [add_off]; exact box_one w x t
  | j + 1 => simp at hu
/-- A number more, behind numbers of the call's own. -/
theorem app1 {w0 wr : World} {ops : Array Oper} {rest : List Oper} {o : Oper} {a : Act} {Q : Exit → Act → World → Prop} (hgd : o.guard = none) (s x : Operand)
    (ho : o.op = .call { callee := .builtin .append, args := #[s, x], argTypes := #[41, 41] }) (B : Nat) (v : Value) (n : Nat) (l : List Int) (hs : a.eval s = v) (hown : wr.ownsRow B 3 1 v n (inC l)) (y : Int) (tt : TypeId) (c : Nat) (hx : a.eval x = .slice (some ⟨wr.heap.size, 0, none⟩) 1 c) (hn : n ≤ 1000000) (hB : Below B w0 wr) (h0 : B ≤ w0.heap.size)
    (h : ∀ v' w', w'.ownsRow B 3 1 v' (n + 1) (inC (l ++ [y])) → Below B w0 w' → wpList Tryz.prog ops Q rest (a.put o.dst v') w') : wpList Tryz.prog ops Q (o :: rest) a (wr.alloc (.cells #[.int .i64 y] tt)) := by
  obtain ⟨i0, hi, hz0, hz1, hz2⟩ := info_parts info3
  have KA := (Below.refl _ wr).alloc (Nat.le_refl _) (.cells #[.int .i64 y] tt)
  have hBs : B ≤ wr.heap.size := Nat.le_trans h0 hB.size
  refine wpList_append_own _ hgd s x 41 ho B 3 i0 (.int .i64 0) 1 8 Tryz.underlying41 hi hz0 hz1 hz2 rfl (by decide) v n (inC l) hs (keepB hown KA) ⟨wr.heap.size, 0, none⟩ 1 c [.int .i64 y] hx rfl (cells_new1 wr _ _) (by intro z hz; simp at hz; subst hz; rfl) (by unfold maxLen; omega) (by omega) (by simp; omega) ?_
  intro v' w' hown' hgro _
  refine h v' w' (by rw [inC_snoc]; exact hown') ?_
  refine (hB.trans (KA.mono hBs)).grown hgro (by simp; omega) (fun q hq => ?_)
  exact (hown.lt q hq).1
set_option maxHeartbeats 2000000 in
theorem insert_any (ao : Option Addr) (n c : Nat) (l : List Int) (x : Int) (hn : n ≤ 100000) (w : World) (hl : IntAt w ao n c l) :
    Calls Tryz.prog 94 #[.slice ao n c, .int .i64 x] w fun e w' => ∃ v, e = .returned v ∧ w'.ownsRow w.heap.size 3 1 v (ins x l).length (inC (ins x l)) ∧ Below w.heap.size w w' := by
  have HL := Lib.hid hl
  have LN := Lib.hid hl.len
  clear hl
  go_enter Tryz.func94, Tryz.ntmps94
  go_wp2
  go_loopw [5, 6, 7] (fun v pu ii wr => ∃ i : Nat, i ≤ n ∧ ii = .int .i64 i ∧ pu = .bool (insRun x (l.take i)).1 ∧ Hid (wr.ownsRow w.heap.size 3 1 v (insRun x (l.take i)).2.length (inC (insRun x (l.take i)).2)) ∧ Hid (Below w.heap.size w wr)) (fun _ _ ii _ => n - (intOf ii).toNat)
  case atStart => exact ⟨0, Nat.zero_le _, rfl, rfl, Lib.hid (World.ownsRow_nil _ _ _ _), Lib.hid (Below.refl _ _)⟩
  case round =>
    obtain ⟨i, hi, rfl, rfl, HO, HW⟩ := hrel
    have hle := insRun_len x (l.take i)
    have hlt := List.length_take_le i l
    by_cases ilt : i < n
    · obtain ⟨b, p, rfl, hc⟩ := HL.out.here (by omega)
      have hil : i < l.length := by rw [LN.out]; exact ilt
      have c1 := cell_keep (hc i hil) HW.out
      have HC0 := Lib.hid (hc i hil)
      have HST : Hid (insRun x (l.take (i + 1)) = insStep x (insRun x (l.take i)) l[i]) := Lib.hid (by rw [List.take_succ_eq_append_getElem hil, insRun_snoc])
      have i0' : (0 : Int) ≤ (i : Int) := by omega
      have i1' : (i : Int) < (n : Int) := by omega
      clear hc
      obtain ⟨y, hy⟩ : ∃ z, l[i] = z := ⟨_, rfl⟩
      rw [hy] at c1 HST HC0
      clear hy hil
      obtain ⟨st, hst⟩ : ∃ z, insRun x (l.take i) = z := ⟨_, rfl⟩
      rw [hst] at HO HST hle
      rw [hst]
      obtain ⟨pu, out⟩ := st
      simp only at HO hle
      clear hst
      have hout : out.length ≤ 200000 := by omega
      clear hle hlt
      by_cases e : y = x
      · have HE : Hid (insRun x (l.take (i + 1)) = (true, out ++ [y])) := Lib.hid (by rw [HST.out]; unfold insStep; rw [if_pos e])
        have t1 : (y == x) = true := by simp; exact e
        clear HST e
        go_wp2_with (at_builtin; refine app1 rfl _ _ rfl w.heap.size u5 out.length out (by rfl) HO.out y _ _ (by rfl) (by omega) HW.out (Nat.le_refl _) ?_; intro v' w3 hO hB'; have HO2 := Lib.hid hO; have HB2 := Lib.hid hB'; clear hO hB')
        go_roundw
        case rel => exact ⟨i + 1, by omega, by go_num, by rw [HE.out], by rw [HE.out]; exact Lib.hid (by simpa using HO2.out), HB2⟩
        case measure => simp [intOf]; omega
      · have t1 : (y == x) = false := by simp; exact e
        cases pu
        · by_cases e2 : x < y
          · have HE : Hid (insRun x (l.take (i + 1)) = (true, out ++ [x] ++ [y])) := Lib.hid (by rw [HST.out]; unfold insStep; rw [if_neg e, if_pos ⟨rfl, e2⟩])
            clear HST e
            go_upto_region 10 with (at_builtin; refine app1 rfl _ _ rfl w.heap.size u5 out.length out (by rfl) HO.out x _ _ (by rfl) (by omega) HW.out (Nat.le_refl _) ?_; intro v2 w3 hO hB'; have HO2 := Lib.hid hO; have HB2 := Lib.hid hB'; clear hO hB')
            have hO5 : (out ++ [x]).length = out.length + 1 := by simp
            have HL5 := Lib.hid hO5
            clear hO5
            have c3 := cell_keep HC0.out HB2.out
            go_wp2_with (at_builtin; refine app1 rfl _ _ rfl w.heap.size v2 (out.length + 1) (out ++ [x]) (by rfl) HO2.out y _ _ (by rfl) (by omega) HB2.out (Nat.le_refl _) ?_; intro v' w4 hO hB'; have HO3 := Lib.hid hO; have HB3 := Lib.hid hB'; clear hO hB')
            go_roundw
            case rel => exact ⟨i + 1, by omega, by go_num, by rw [HE.out], by rw [HE.out]; exact Lib.hid (by simpa using HO3.out), HB3⟩
            case measure => simp [intOf]; omega
          · have HE : Hid (insRun x (l.take (i + 1)) = (false, out ++ [y])) := Lib.hid (by rw [HST.out]; unfold insStep; rw [if_neg e, if_neg (by simp [e2])])
            clear HST e
            go_wp2_with (at_builtin; refine app1 rfl _ _ rfl w.heap.size u5 out.length out (by rfl) HO.out y _ _ (by rfl) (by omega) HW.out (Nat.le_refl _) ?_; intro v' w3 hO hB'; have HO2 := Lib.hid hO; have HB2 := Lib.hid hB'; clear hO hB')
            go_roundw
            case rel => exact ⟨i + 1, by omega, by go_num, by rw [HE.out], by rw [HE.out]; exact Lib.hid (by simpa using HO2.out), HB2⟩
            case measure => simp [intOf]; omega
        · have HE : Hid (insRun x (l.take (i + 1)) = (true, out ++ [y])) := Lib.hid (by rw [HST.out]; unfold insStep; rw [if_neg e, if_neg (by simp)])
          clear HST e
          go_wp2_with (at_builtin; refine app1 rfl _ _ rfl w.heap.size u5 out.length out (by rfl) HO.out y _ _ (by rfl) (by omega) HW.out (Nat.le_refl _) ?_; intro v' w3 hO hB'; have HO2 := Lib.hid hO; have HB2 := Lib.hid hB'; clear hO hB')
          go_roundw
          case rel => exact ⟨i + 1, by omega, by go_num, by rw [HE.out], by rw [HE.out]; exact Lib.hid (by simpa using HO2.out), HB2⟩
          case measure => simp [intOf]; omega
    · obtain rfl : i = n := by omega
      have HT : Hid (l.take i = l) := Lib.hid (List.take_of_length_le (by rw [LN.out]; exact Nat.le_refl _))
      rw [HT.out] at HO hle ⊢
      have HI : Hid (ins x l = if (insRun x l).1 then (insRun x l).2 else (insRun x l).2 ++ [x]) := Lib.hid rfl
      obtain ⟨st, hst⟩ : ∃ z, insRun x l = z := ⟨_, rfl⟩
      rw [hst] at HO HI hle
      rw [hst]
      obtain ⟨pu, out⟩ := st
      simp only at HO hle HI
      have hout : out.length ≤ 200000 := by have := LN.out; omega
      clear hst hle hlt HT
      cases pu
      · have HI2 : Hid (ins x l = out ++ [x]) := Lib.hid (by rw [HI.out]; rfl)
        clear HI
        go_wp2_with (at_builtin; refine app1 rfl _ _ rfl w.heap.size u5 out.length out (by rfl) HO.out x _ _ (by rfl) (by omega) HW.out (Nat.le_refl _) ?_; intro v' w3 hO hB'; have HO2 := Lib.hid hO; have HB2 := Lib.hid hB'; clear hO hB')
        go_returns
        exact ⟨_, rfl, by rw [HI2.out]; simpa using HO2.out, HB2.out⟩
      · have HI2 : Hid (ins x l = out) := Lib.hid (by rw [HI.out]; rfl)
        clear HI
        go_wp2
        go_returns
        exact ⟨_, rfl, by rw [HI2.out]; exact HO.out, HW.out⟩
theorem insert_int (ao : Option Addr) (n c : Nat) (l : List Int) (x : Int) (hn : n ≤ 100000) (w : World) (hl : IntAt w ao n c l) :
    Calls Tryz.prog 94 #[.slice ao n c, .int .i64 x] w fun e w' => ∃ o' c', e = .returned (.slice o' (ins x l).length c') ∧ Hid (IntAt w' o' (ins x l).length c' (ins x l)) ∧ Below w.heap.size w w' := by
  refine (insert_any ao n c l x hn w hl).mono ?_
  rintro e w' ⟨v, e1, h1, h2⟩
  obtain ⟨o', c', rfl, h3⟩ := own_int rfl h1
  exact ⟨o', c', e1, Lib.hid h3, h2⟩
/-- What one span adds to the places. -/
def pl1 (o : List Int) (s : Sp) : List Int := ins (s.2 + 1) (ins s.1 o)
def pls (o : List Int) (l : List Sp) : List Int := l.foldl pl1 o
theorem pls_snoc (o : List Int) (l : List Sp) (s : Sp) : pls o (l ++ [s]) = pl1 (pls o l) s := by unfold pls; rw [List.foldl_append]; rfl
theorem pls_ok (o : List Int) (l : List Sp) (h : Inc o) : Inc (pls o l) ∧ (∀ t, t ∈ pls o l ↔ t ∈ o ∨ ∃ s ∈ l, t = s.1 ∨ t = s.2 + 1) ∧ (pls o l).length ≤ o.length + 2 * l.length := by
  induction l using snoc_ind with
  | nil => exact ⟨h, fun t => by simp [pls], by simp [pls]⟩
  | append_singleton l s ih =>
    obtain ⟨h1, h2, h3⟩ := ih
    obtain ⟨a1, a2, a3⟩ := ins_ok (x := s.1) h1
    obtain ⟨b1, b2, b3⟩ := ins_ok (x := s.2 + 1) a1
    rw [pls_snoc]
    unfold pl1
    refine ⟨b1, fun t => ?_, by simp; omega⟩
    rw [b2, a2, h2]
    constructor
    · rintro (((z | ⟨u, hu, z⟩) | z) | z)
      · exact .inl z
      · exact .inr ⟨u, List.mem_append.2 (.inl hu), z⟩
      · exact .inr ⟨s, by simp, .inl z⟩
      · exact .inr ⟨s, by simp, .inr z⟩
    · rintro (z | ⟨u, hu, z⟩)
      · exact .inl (.inl (.inl z))
      · rcases List.mem_append.1 hu with hu | hu
        · exact .inl (.inl (.inr ⟨u, hu, z⟩))
        · rw [List.mem_singleton.1 hu] at z
          rcases z with z | z
          · exact .inl (.inr z)
          · exact .inr z
theorem pls_len (o : List Int) (l : List Sp) (h : Inc o) : (pls o l).length ≤ o.length + 2 * l.length := (pls_ok o l h).2.2
set_option maxHeartbeats 2000000 in
theorem places_any (ao bo : Option Addr) (n c m d : Nat) (a b : List Sp) (hn : n ≤ 10000) (hm : m ≤ 10000) (hfa : FitL a) (hfb : FitL b) (hta : ∀ s ∈ a, s.2 ≤ 1099511627776) (htb : ∀ s ∈ b, s.2 ≤ 1099511627776) (w : World) (ha : SpAt w ao n c a) (hb : SpAt w bo m d b) :
    Calls Tryz.prog 68 #[.slice ao n c, .slice bo m d] w fun e w' => ∃ o' c', e = .returned (.slice o' (pls (pls [] a) b).length c') ∧ Hid (IntAt w' o' (pls (pls [] a) b).length c' (pls (pls [] a) b)) ∧ Below w.heap.size w w' := by
  have HA := Lib.hid ha
  have HB := Lib.hid hb
  have LA := Lib.hid ha.len
  have LB := Lib.hid hb.len
  have FA := Lib.hid hfa
  have FB := Lib.hid hfb
  have TA := Lib.hid hta
  have TB := Lib.hid htb
  have hmx : n ≤ 9223372036854775807 := Nat.le_trans ha.le ha.top
  have hmy : m ≤ 9223372036854775807 := Nat.le_trans hb.le hb.top
  have I0 : Inc ([] : List Int) := List.Pairwise.nil
  have IA := (pls_ok [] a I0).1
  have NA := Lib.hid (fun i => pls_len [] (a.take i) I0)
  have NB := Lib.hid (fun i => pls_len (pls [] a) (b.take i) IA)
  have NA0 := Lib.hid (pls_len [] a I0)
  clear ha hb hfa hfb hta htb I0 IA
  go_enter Tryz.func68, Tryz.ntmps68
  go_wp2
  go_loopw [5, 6] (fun v ii wr => ∃ (i : Nat) (o : Option Addr) (k : Nat), i ≤ n ∧ ii = .int .i64 i ∧ v = .slice o (pls [] (a.take i)).length k ∧ Hid (IntAt wr o (pls [] (a.take i)).length k (pls [] (a.take i))) ∧ Hid (Below w.heap.size w wr)) (fun _ ii _ => n - (intOf ii).toNat)
  case atStart => exact ⟨0, none, 0, Nat.zero_le _, rfl, rfl, Lib.hid (IntAt.nil w), Lib.hid (Below.refl _ _)⟩
  case round =>
    obtain ⟨i, o, k, hi, rfl, rfl, HI, HW⟩ := hrel
    have hN := NA.out i
    have hT := List.length_take_le i a
    by_cases ilt : i < n
    · obtain ⟨g, p, rfl, hc⟩ := HA.out.here (by omega)
      have hil : i < a.length := by rw [LA.out]; exact ilt
      have c1 := cell_keep (hc i hil).1 HW.out
      have c2 := cell_keep (hc i hil).2 HW.out
      have f1 := FA.out _ (List.getElem_mem hil)
      have f2 := TA.out _ (List.getElem_mem hil)
      have HSN : Hid (pls [] (a.take (i + 1)) = pl1 (pls [] (a.take i)) a[i]) := Lib.hid (by rw [List.take_succ_eq_append_getElem hil, pls_snoc])
      have i0' : (0 : Int) ≤ (i : Int) := by omega
      have i1' : (i : Int) < (n : Int) := by omega
      clear hc
      obtain ⟨s, hs⟩ : ∃ z, a[i] = z := ⟨_, rfl⟩
      rw [hs] at c1 c2 HSN f1 f2
      clear hs hil
      obtain ⟨x, y⟩ := s
      simp only at c1 c2 f1 f2
      obtain ⟨⟨f1, f3⟩, f4, f5⟩ := f1
      have e1 : IntKind.i64.wrap (y + 1) = y + 1 := IntWalk.i64_in _ (by omega)
      obtain ⟨L, hL⟩ : ∃ z, pls [] (a.take i) = z := ⟨_, rfl⟩
      rw [hL] at HI HSN hN
      rw [hL]
      have hLn : L.length ≤ 20000 := by simp at hN; omega
      have hLn2 : (ins x L).length ≤ 100000 := by
        have := insRun_len x L
        unfold ins; split <;> simp <;> omega
      clear hL hN hT
      have E1 := Lib.hid (fun W (h : Hid (Below w.heap.size w W ∧ IntAt W o L.length k L) ∧ W.cell? ⟨g, p + i * 2, none⟩ = some (.int .i64 x) ∧ W.cell? ⟨g, p + i * 2 + 1, none⟩ = some (.int .i64 y)) => insert_int o L.length k L x (by omega) W h.1.out.2)
      have KP : Hid (∀ W W' (h : Hid (Below w.heap.size w W ∧ IntAt W o L.length k L) ∧ W.cell? ⟨g, p + i * 2, none⟩ = some (.int .i64 x) ∧ W.cell? ⟨g, p + i * 2 + 1, none⟩ = some (.int .i64 y)), Below W.heap.size W W' → Hid (Below w.heap.size w W' ∧ IntAt W' o L.length k L) ∧ W'.cell? ⟨g, p + i * 2, none⟩ = some (.int .i64 x) ∧ W'.cell? ⟨g, p + i * 2 + 1, none⟩ = some (.int .i64 y)) := Lib.hid (fun W W' h q => ⟨Lib.hid ⟨h.1.out.1.trans (q.mono h.1.out.1.size), h.1.out.2.keep q⟩, cell_keep h.2.1 q, cell_keep h.2.2 q⟩)
      have S0 := KP.out wr wr.drew ⟨Lib.hid ⟨HW.out, HI.out⟩, c1, c2⟩ (Below.refl _ wr).drew
      have S0 := Lib.hid S0
      have HLn2 := Lib.hid hLn2
      clear c1 c2 hLn2
      go_upto_region 5 with fail
      go_region_held3 (fun W => Hid (Below w.heap.size w W ∧ IntAt W o L.length k L) ∧ W.cell? ⟨g, p + i * 2, none⟩ = some (.int .i64 x) ∧ W.cell? ⟨g, p + i * 2 + 1, none⟩ = some (.int .i64 y)) (first | exact S0.out | exact S2.out | exact S1.out)
        ((first
          | (go_at_call 94; (with_reducible refine (E1.out _ (by assumption)).mono ?_); rintro e z ⟨o1, k1, rfl, HI1, q1⟩; have S1 := Lib.hid (KP.out _ _ (by assumption) q1))
          | (go_at_call 94; (with_reducible refine (insert_int o1 _ k1 (ins x L) (y + 1) HLn2.out _ HI1.out).mono ?_); rintro e z2 ⟨o2, k2, rfl, HI2, q2⟩; have S2 := Lib.hid (KP.out _ _ (by assumption) q2))
          | fail))
      clear e1
      have HE : Hid (pls [] (a.take (i + 1)) = ins (y + 1) (ins x L)) := Lib.hid HSN.out
      go_wp2
      go_roundw
      case rel => exact ⟨i + 1, o2, k2, by omega, by go_num, by rw [HE.out], by rw [HE.out]; exact HI2, Lib.hid S2.out.1.out.1⟩
      case measure => simp [intOf]; omega
    · obtain rfl : i = n := by omega
      have HT : Hid (a.take i = a) := Lib.hid (List.take_of_length_le (by rw [LA.out]; exact Nat.le_refl _))
      rw [HT.out] at HI ⊢
      clear hN hT HT
      have hN0 := NA0.out
      have hA0' : (pls [] a).length ≤ 20000 := by have := LA.out; simp only [List.length_nil] at hN0; omega
      obtain ⟨A0, hA00⟩ : ∃ z, pls [] a = z := ⟨_, rfl⟩
      have HA0 := Lib.hid hA00
      have HI0 := HI
      rw [hA00] at HI0 NB hA0'
      rw [hA00]
      have hA0 := hA0'
      clear hN0 hA0' hA00 HI NA0
      go_wp2
      go_loopw [5, 7] (fun v ii wr => ∃ (i : Nat) (o : Option Addr) (k : Nat), i ≤ m ∧ ii = .int .i64 i ∧ v = .slice o (pls A0 (b.take i)).length k ∧ Hid (IntAt wr o (pls A0 (b.take i)).length k (pls A0 (b.take i))) ∧ Hid (Below w.heap.size w wr)) (fun _ ii _ => m - (intOf ii).toNat)
      case atStart => exact ⟨0, o, k, Nat.zero_le _, rfl, rfl, HI0, HW⟩
      case round =>
        obtain ⟨i, o, k, hi, rfl, rfl, HI, HW⟩ := hrel
        have hN := NB.out i
        have hT := List.length_take_le i b
        by_cases ilt : i < m
        · obtain ⟨g, p, rfl, hc⟩ := HB.out.here (by omega)
          have hil : i < b.length := by rw [LB.out]; exact ilt
          have c1 := cell_keep (hc i hil).1 HW.out
          have c2 := cell_keep (hc i hil).2 HW.out
          have f1 := FB.out _ (List.getElem_mem hil)
          have f2 := TB.out _ (List.getElem_mem hil)
          have HSN : Hid (pls A0 (b.take (i + 1)) = pl1 (pls A0 (b.take i)) b[i]) := Lib.hid (by rw [List.take_succ_eq_append_getElem hil, pls_snoc])
          have i0' : (0 : Int) ≤ (i : Int) := by omega
          have i1' : (i : Int) < (m : Int) := by omega
          clear hc
          obtain ⟨s, hs⟩ : ∃ z, b[i] = z := ⟨_, rfl⟩
          rw [hs] at c1 c2 HSN f1 f2
          clear hs hil
          obtain ⟨x, y⟩ := s
          simp only at c1 c2 f1 f2
          obtain ⟨⟨f1, f3⟩, f4, f5⟩ := f1
          have e1 : IntKind.i64.wrap (y + 1) = y + 1 := IntWalk.i64_in _ (by omega)
          obtain ⟨L, hL⟩ : ∃ z, pls A0 (b.take i) = z := ⟨_, rfl⟩
          rw [hL] at HI HSN hN
          rw [hL]
          have hLn : L.length ≤ 40000 := by have := hA0; omega
          have hLn2 : (ins x L).length ≤ 100000 := by
            have := insRun_len x L
            unfold ins; split <;> simp <;> omega
          clear hL hN hT
          have E1 := Lib.hid (fun W (h : Hid (Below w.heap.size w W ∧ IntAt W o L.length k L) ∧ W.cell? ⟨g, p + i * 2, none⟩ = some (.int .i64 x) ∧ W.cell? ⟨g, p + i * 2 + 1, none⟩ = some (.int .i64 y)) => insert_int o L.length k L x (by omega) W h.1.out.2)
          have KP : Hid (∀ W W' (h : Hid (Below w.heap.size w W ∧ IntAt W o L.length k L) ∧ W.cell? ⟨g, p + i * 2, none⟩ = some (.int .i64 x) ∧ W.cell? ⟨g, p + i * 2 + 1, none⟩ = some (.int .i64 y)), Below W.heap.size W W' → Hid (Below w.heap.size w W' ∧ IntAt W' o L.length k L) ∧ W'.cell? ⟨g, p + i * 2, none⟩ = some (.int .i64 x) ∧ W'.cell? ⟨g, p + i * 2 + 1, none⟩ = some (.int .i64 y)) := Lib.hid (fun W W' h q => ⟨Lib.hid ⟨h.1.out.1.trans (q.mono h.1.out.1.size), h.1.out.2.keep q⟩, cell_keep h.2.1 q, cell_keep h.2.2 q⟩)
          have S0 := KP.out wr wr.drew ⟨Lib.hid ⟨HW.out, HI.out⟩, c1, c2⟩ (Below.refl _ wr).drew
          have S0 := Lib.hid S0
          have HLn2 := Lib.hid hLn2
          clear c1 c2 hLn2
          go_upto_region 9 with fail
          go_region_held3 (fun W => Hid (Below w.heap.size w W ∧ IntAt W o L.length k L) ∧ W.cell? ⟨g, p + i * 2, none⟩ = some (.int .i64 x) ∧ W.cell? ⟨g, p + i * 2 + 1, none⟩ = some (.int .i64 y)) (first | exact S0.out | exact S2.out | exact S1.out)
            ((first
              | (go_at_call 94; (with_reducible refine (E1.out _ (by assumption)).mono ?_); rintro e z ⟨o1, k1, rfl, HI1, q1⟩; have S1 := Lib.hid (KP.out _ _ (by assumption) q1))
              | (go_at_call 94; (with_reducible refine (insert_int o1 _ k1 (ins x L) (y + 1) HLn2.out _ HI1.out).mono ?_); rintro e z2 ⟨o2, k2, rfl, HI2, q2⟩; have S2 := Lib.hid (KP.out _ _ (by assumption) q2))
              | fail))
          clear e1
          have HE : Hid (pls A0 (b.take (i + 1)) = ins (y + 1) (ins x L)) := Lib.hid HSN.out
          go_wp2
          go_roundw
          case rel => exact ⟨i + 1, o2, k2, by omega, by go_num, by rw [HE.out], by rw [HE.out]; exact HI2, Lib.hid S2.out.1.out.1⟩
          case measure => simp [intOf]; omega
        · obtain rfl : i = m := by omega
          have HT : Hid (b.take i = b) := Lib.hid (List.take_of_length_le (by rw [LB.out]; exact Nat.le_refl _))
          rw [HT.out] at HI ⊢
          clear hN hT HT
          go_wp2
          go_returns
          exact ⟨o, k, by rw [HA0.out]; rfl, by rw [HA0.out]; exact HI, HW.out⟩
/-- What is told so far, up to a place. -/
structure ToldS (F : Int → Bool) (x : Int) (out : List Sp) : Prop where
  good : Good out
  next : nxt (-1099511627776) out ≤ x + 1
  empty : out = [] → -1099511627776 ≤ x
  ticks : ∀ t, mem out t ↔ t < x ∧ F t = true
theorem toldS_skip {F : Int → Bool} {x y : Int} {out : List Sp} (h : ToldS F x out) (hxy : x < y) (hc : ∀ t, x ≤ t → t < y → F t = F x) (hf : F x = false) : ToldS F y out := by
  refine ⟨h.good, by have := h.next; omega, fun e => by have := h.empty e; omega, fun t => ?_⟩
  rw [h.ticks]
  constructor
  · rintro ⟨a, b⟩; exact ⟨by omega, b⟩
  · rintro ⟨a, b⟩
    by_cases q : t < x
    · exact ⟨q, b⟩
    · rw [hc t (by omega) a, hf] at b; cases b
theorem toldS_more {F : Int → Bool} {x y : Int} {out : List Sp} (h : ToldS F x out) (hxy : x < y) (hy : y ≤ 1099511627777) (hc : ∀ t, x ≤ t → t < y → F t = F x) (hf : F x = true) (hn : nxt (-1099511627776) out ≤ x) : ToldS F y (out ++ [(x, y - 1)]) := by
  refine ⟨(rt_snoc _ _ _).2 ⟨h.good, hn, by simp only; omega, by simp only; omega⟩, by rw [nxt_snoc]; simp only; omega, fun e => by simp at e, fun t => ?_⟩
  rw [mem_append, mem_cons, h.ticks]
  constructor
  · rintro (⟨a, b⟩ | ⟨a, b⟩ | z)
    · exact ⟨by omega, b⟩
    · simp only at a b; exact ⟨by omega, by rw [hc t a (by omega)]; exact hf⟩
    · exact absurd z (mem_nil t)
  · rintro ⟨a, b⟩
    by_cases q : t < x
    · exact .inl ⟨q, b⟩
    · exact .inr (.inl ⟨by simp only; omega, by simp only; omega⟩)
theorem toldS_push {F : Int → Bool} {x y : Int} {out : List Sp} (h : ToldS F x out) (hxy : x < y) (hy : y ≤ 1099511627777) (hc : ∀ t, x ≤ t → t < y → F t = F x) (hf : F x = true) (hn : ∀ o s, out = o ++ [s] → s.2 ≠ x - 1) : ToldS F y (out ++ [(x, y - 1)]) := by
  refine toldS_more h hxy hy hc hf ?_
  by_cases e : out = []
  · subst e; exact h.empty rfl
  · have e2 := (List.dropLast_concat_getLast e).symm
    have q := hn _ _ e2
    have n := h.next
    rw [e2, nxt_snoc] at n ⊢
    omega
theorem toldS_join {F : Int → Bool} {x y : Int} {o : List Sp} {p q : Int} (h : ToldS F x (o ++ [(p, q)])) (hxy : x < y) (hy : y ≤ 1099511627777) (hc : ∀ t, x ≤ t → t < y → F t = F x) (hf : F x = true) (hq : q = x - 1) : ToldS F y (o ++ [(p, y - 1)]) := by
  have g := (rt_snoc _ _ _).1 h.good
  simp only at g
  refine ⟨(rt_snoc _ _ _).2 ⟨g.1, g.2.1, by simp only; omega, by simp only; omega⟩, by rw [nxt_snoc]; simp only; omega, fun e => by simp at e, fun t => ?_⟩
  have k := h.ticks t
  rw [mem_append, mem_cons] at k ⊢
  simp only at k ⊢
  constructor
  · rintro (a | ⟨a, b⟩ | z)
    · have := k.1 (.inl a); exact ⟨by omega, this.2⟩
    · by_cases w : t < x
      · have := k.1 (.inr (.inl ⟨a, by omega⟩)); exact ⟨by omega, this.2⟩
      · exact ⟨by omega, by rw [hc t (by omega) (by omega)]; exact hf⟩
    · exact absurd z (mem_nil t)
  · rintro ⟨a, b⟩
    by_cases w : t < x
    · rcases k.2 ⟨w, b⟩ with z | z | z
      · exact .inl z
      · exact .inr (.inl ⟨z.1, by omega⟩)
      · exact absurd z (mem_nil t)
    · have := g.2.2.1
      exact .inr (.inl ⟨by omega, by omega⟩)
/-- Between two places all ticks are alike. -/
theorem flat_mem {a : List Sp} {x y t : Int} (hp : ∀ s ∈ a, (s.1 ≤ x ∨ y ≤ s.1) ∧ (s.2 + 1 ≤ x ∨ y ≤ s.2 + 1)) (h1 : x ≤ t) (h2 : t < y) : mem a t ↔ mem a x := by
  constructor
  · rintro ⟨s, hs, p, q⟩
    have := hp s hs
    exact ⟨s, hs, by omega, by omega⟩
  · rintro ⟨s, hs, p, q⟩
    have := hp s hs
    exact ⟨s, hs, by omega, by omega⟩
/-- Of numbers that rise none is between two that follow one another. -/
theorem inc_gap {P : List Int} (h : Inc P) {i : Nat} (hi : i + 1 < P.length) {t : Int} (ht : t ∈ P) : t ≤ P[i] ∨ P[i + 1] ≤ t := by
  obtain ⟨j, hj, rfl⟩ := List.getElem_of_mem ht
  have lt : ∀ (u v : Nat) (hu : u < P.length) (hv : v < P.length), u < v → P[u] < P[v] := fun u v hu hv q => List.pairwise_iff_getElem.1 h u v hu hv q
  by_cases q : j ≤ i
  · left
    by_cases e : j = i
    · subst e; exact Int.le_refl _
    · have := lt j i hj (by omega) (by omega); omega
  · right
    by_cases e : j = i + 1
    · subst e; exact Int.le_refl _
    · have := lt (i + 1) j hi hj (by omega); omega
/-- What Set asks of spans: their ends are ticks, in order. -/
def Spans (a : List Sp) : Prop := ∀ s ∈ a, s.1 ≤ s.2 ∧ -1099511627776 ≤ s.1 ∧ s.2 ≤ 1099511627776
theorem spans_good {a : List Sp} (g : Good a) : Spans a := by
  intro s hs
  obtain ⟨i, hi, rfl⟩ := List.getElem_of_mem hs
  have := good_at g i hi
  omega
/-- The places of two lists of spans, and what they are good for. -/
structure Plc (a b : List Sp) (P : List Int) : Prop where
  inc : Inc P
  mem : ∀ t, t ∈ P ↔ (∃ s ∈ a, t = s.1 ∨ t = s.2 + 1) ∨ ∃ s ∈ b, t = s.1 ∨ t = s.2 + 1
  len : P.length ≤ 2 * a.length + 2 * b.length
theorem plc_pls (a b : List Sp) : Plc a b (pls (pls [] a) b) := by
  obtain ⟨a1, a2, a3⟩ := pls_ok [] a List.Pairwise.nil
  obtain ⟨b1, b2, b3⟩ := pls_ok (pls [] a) b a1
  refine ⟨b1, fun t => ?_, by simp at a3; omega⟩
  rw [b2, a2]
  simp
theorem Plc.low {a b : List Sp} {P : List Int} (h : Plc a b P) (sa : Spans a) (sb : Spans b) {t : Int} (ht : t ∈ P) : -1099511627776 ≤ t ∧ t ≤ 1099511627777 := by
  rcases (h.mem t).1 ht with ⟨s, hs, e⟩ | ⟨s, hs, e⟩
  · have := sa s hs; omega
  · have := sb s hs; omega
theorem Plc.flat {a b : List Sp} {P : List Int} (h : Plc a b P) {i : Nat} (hi : i + 1 < P.length) {t : Int} (h1 : P[i] ≤ t) (h2 : t < P[i + 1]) : (Go.Proofs.YtjhbgedobkpdhaaGreat.mem a t ↔ Go.Proofs.YtjhbgedobkpdhaaGreat.mem a P[i]) ∧ (Go.Proofs.YtjhbgedobkpdhaaGreat.mem b t ↔ Go.Proofs.YtjhbgedobkpdhaaGreat.mem b P[i]) := by
  refine ⟨flat_mem (fun s hs => ⟨?_, ?_⟩) h1 h2, flat_mem (fun s hs => ⟨?_, ?_⟩) h1 h2⟩
  · exact inc_gap h.inc hi ((h.mem _).2 (.inl ⟨s, hs, .inl rfl⟩))
  · exact inc_gap h.inc hi ((h.mem _).2 (.inl ⟨s, hs, .inr rfl⟩))
  · exact inc_gap h.inc hi ((h.mem _).2 (.inr ⟨s, hs, .inl rfl⟩))
  · exact inc_gap h.inc hi ((h.mem _).2 (.inr ⟨s, hs, .inr rfl⟩))
/-- Outside of all places there is no tick. -/
theorem Plc.out {a b : List Sp} {P : List Int} (h : Plc a b P) (sa : Spans a) (sb : Spans b) {t : Int} (ht : Go.Proofs.YtjhbgedobkpdhaaGreat.mem a t ∨ Go.Proofs.YtjhbgedobkpdhaaGreat.mem b t) : (∃ x ∈ P, x ≤ t) ∧ ∃ y ∈ P, t < y := by
  rcases ht with ⟨s, hs, p, q⟩ | ⟨s, hs, p, q⟩
  · exact ⟨⟨s.1, (h.mem _).2 (.inl ⟨s, hs, .inl rfl⟩), p⟩, s.2 + 1, (h.mem _).2 (.inl ⟨s, hs, .inr rfl⟩), by omega⟩
  · exact ⟨⟨s.1, (h.mem _).2 (.inr ⟨s, hs, .inl rfl⟩), p⟩, s.2 + 1, (h.mem _).2 (.inr ⟨s, hs, .inr rfl⟩), by omega⟩
theorem inc_ends {P : List Int} (h : Inc P) {x : Int} (hx : x ∈ P) (h0 : 0 < P.length) : P[0] ≤ x ∧ x ≤ P[P.length - 1] := by
  obtain ⟨j, hj, rfl⟩ := List.getElem_of_mem hx
  have lt : ∀ (u v : Nat) (hu : u < P.length) (hv : v < P.length), u < v → P[u] < P[v] := fun u v hu hv q => List.pairwise_iff_getElem.1 h u v hu hv q
  constructor
  · by_cases e : j = 0
    · subst e; exact Int.le_refl _
    · have := lt 0 j h0 hj (by omega); omega
  · by_cases e : j = P.length - 1
    · subst e; exact Int.le_refl _
    · have := lt j (P.length - 1) hj (by omega) (by omega); omega
noncomputable def Fk (k : Int) (a b : List Sp) (t : Int) : Bool := by classical exact inB k (decide (mem a t)) (decide (mem b t))
theorem inB_ff (k : Int) : inB k false false = false := by unfold inB; split <;> (try split) <;> rfl
theorem Fk_out {k : Int} {a b : List Sp} {t : Int} (h : ¬ (mem a t ∨ mem b t)) : Fk k a b t = false := by
  unfold Fk
  simp only [not_or] at h
  simp [h.1, h.2, inB_ff]
theorem Fk_flat {k : Int} {a b : List Sp} {t x : Int} (h1 : mem a t ↔ mem a x) (h2 : mem b t ↔ mem b x) : Fk k a b t = Fk k a b x := by
  unfold Fk; rw [propext h1, propext h2]
theorem toldS_start {k : Int} {a b : List Sp} {P : List Int} (h : Plc a b P) (sa : Spans a) (sb : Spans b) (h0 : 0 < P.length) : ToldS (Fk k a b) P[0] [] := by
  have lo := h.low sa sb (List.getElem_mem h0)
  refine ⟨trivial, (show (-1099511627776 : Int) ≤ P[0] + 1 by omega), fun _ => by omega, fun t => ?_⟩
  constructor
  · intro z; exact absurd z (mem_nil t)
  · rintro ⟨p, q⟩
    exfalso
    by_cases z : mem a t ∨ mem b t
    · obtain ⟨⟨x, hx, e⟩, _⟩ := h.out sa sb z
      have := (inc_ends h.inc hx h0).1; omega
    · rw [Fk_out z] at q; cases q
theorem toldS_end {k : Int} {a b : List Sp} {P : List Int} {out : List Sp} (h : Plc a b P) (sa : Spans a) (sb : Spans b) (h0 : 0 < P.length) (ht : ToldS (Fk k a b) (P[P.length - 1]) out) : Good out ∧ ∀ t, mem out t ↔ Fk k a b t = true := by
  refine ⟨ht.good, fun t => ?_⟩
  rw [ht.ticks]
  constructor
  · exact fun z => z.2
  · intro q
    refine ⟨?_, q⟩
    by_cases z : mem a t ∨ mem b t
    · obtain ⟨_, y, hy, e⟩ := h.out sa sb z
      have := (inc_ends h.inc hy h0).2; omega
    · rw [Fk_out z] at q; cases q
theorem toldS_none {k : Int} {a b : List Sp} {P : List Int} (h : Plc a b P) (sa : Spans a) (sb : Spans b) (h0 : P.length = 0) : ∀ t, mem [] t ↔ Fk k a b t = true := by
  intro t
  constructor
  · intro z; exact absurd z (mem_nil t)
  · intro q
    exfalso
    by_cases z : mem a t ∨ mem b t
    · obtain ⟨⟨x, hx, e⟩, _⟩ := h.out sa sb z
      have := List.length_pos_of_mem hx; omega
    · rw [Fk_out z] at q; cases q
theorem rhas_is (ao : Option Addr) (n c : Nat) (l : List Sp) (t : Int) (w : World) (hw : SpAt w ao n c l) (r : Bool) (hr : r = true ↔ mem l t) :
    Calls Tryz.prog 28 #[.slice ao n c, .int .i64 t] w fun e w' => e = .returned (.bool r) ∧ w' = w :=
  (rhas_any ao n c l t w hw r hr).mono fun e w' ⟨h1, h2⟩ => ⟨h1, h2.symm⟩
theorem in_is (k : Int) (p q f : Bool) (h : inB k p q = f) (w : World) : Calls Tryz.prog 69 #[.int .i64 k, .bool p, .bool q] w fun e w' => e = .returned (.bool f) ∧ w' = w := by
  subst h; exact (in_any k p q w).mono fun e w' ⟨h1, h2⟩ => ⟨h1, h2.symm⟩
set_option maxHeartbeats 4000000 in
theorem refSet_any (k : Int) (ao bo : Option Addr) (n c m d : Nat) (a b : List Sp) (hn : n ≤ 5000) (hm : m ≤ 5000) (sa : Spans a) (sb : Spans b) (w : World) (ha : SpAt w ao n c a) (hb : SpAt w bo m d b) :
    Calls Tryz.prog 47 #[.int .i64 k, .slice ao n c, .slice bo m d] w fun e w' => ∃ v r, e = .returned v ∧ Good r ∧ (∀ t, mem r t ↔ Fk k a b t = true) ∧ r.length ≤ 2 * n + 2 * m ∧ w'.ownsRow w.heap.size 38 2 v r.length (spCells r) ∧ Below w.heap.size w w' := by
  obtain ⟨i0, hi, hz0, hz1, hz2⟩ := info_parts info38
  have HII := Lib.hid hi
  have HZ0 := Lib.hid hz0
  have HZ1 := Lib.hid hz1
  have HZ2 := Lib.hid hz2
  have fit : ∀ {l : List Sp}, Spans l → FitL l ∧ ∀ s ∈ l, s.2 ≤ 1099511627776 := fun h => ⟨fun s hs => by have := h s hs; omega, fun s hs => (h s hs).2.2⟩
  have PC := Lib.hid (places_any ao bo n c m d a b (by omega) (by omega) (fit sa).1 (fit sb).1 (fit sa).2 (fit sb).2 w ha hb)
  have PL := Lib.hid (plc_pls a b)
  have LA := Lib.hid ha.len
  have LB := Lib.hid hb.len
  have HA := Lib.hid ha
  have HB := Lib.hid hb
  have SA := Lib.hid sa
  have SB := Lib.hid sb
  obtain ⟨P, hP⟩ : ∃ z, pls (pls [] a) b = z := ⟨_, rfl⟩
  rw [hP] at PC PL
  have hPL : P.length ≤ 20000 := by have := PL.out.len; have := LA.out; have := LB.out; omega
  have HPN : Hid (P.length ≤ 2 * n + 2 * m) := Lib.hid (by have := PL.out.len; have := LA.out; have := LB.out; omega)
  obtain ⟨N, hN⟩ : ∃ z, P.length = z := ⟨_, rfl⟩
  have HN := Lib.hid hN
  rw [hN] at PC HPN hPL
  clear hi hz0 hz1 hz2 fit ha hb sa sb hP hN
  go_enter Tryz.func47, Tryz.ntmps47
  go_upto_region 2 with (go_at_call 68; (with_reducible refine (PC.out).mono ?_); rintro e w1 ⟨po, pc, rfl, HP, q1⟩)
  have HB1 := Lib.hid q1
  have HA1 := Lib.hid (HA.out.keep q1)
  have HBB := Lib.hid (HB.out.keep q1)
  clear q1 PC HA HB
  go_wp2
  go_loopw [8, 9] (fun v ii wr => ∃ (i : Nat) (r : List Sp), (i = 0 ∨ i < N) ∧ ii = .int .i64 i ∧ Hid (r.length ≤ i) ∧ Hid (wr.ownsRow w1.heap.size 38 2 v r.length (spCells r)) ∧ Hid (∀ h : i < P.length, ToldS (Fk k a b) P[i] r) ∧ Hid (N = 0 → r = []) ∧ Hid (Below w1.heap.size w1 wr)) (fun _ ii _ => N - (intOf ii).toNat)
  case atStart => exact ⟨0, [], .inl rfl, rfl, Lib.hid (Nat.le_refl _), Lib.hid (World.ownsRow_nil _ _ _ _), Lib.hid (fun h => toldS_start PL.out SA.out SB.out h), Lib.hid (fun _ => rfl), Lib.hid (Below.refl _ _)⟩
  case round =>
    obtain ⟨i, r, hi0, rfl, HR, HO, HT, HE, HW⟩ := hrel
    have hle : i ≤ 20000 := by omega
    by_cases ilt : i + 1 < N
    · have hiP : i + 1 < P.length := by rw [HN.out]; exact ilt
      obtain ⟨g, p, rfl, hc⟩ := HP.out.here (by omega)
      obtain ⟨q1, q2⟩ := PL.out.low SA.out SB.out (List.getElem_mem (show i < P.length by omega))
      obtain ⟨q3, q4⟩ := PL.out.low SA.out SB.out (List.getElem_mem hiP)
      have qq := List.pairwise_iff_getElem.1 PL.out.inc i (i + 1) (by omega) hiP (by omega)
      have HTT := Lib.hid (HT.out (by omega))
      have c1 := cell_keep (hc i (by omega)) HW.out
      have c2 := cell_keep (hc (i + 1) hiP) HW.out
      obtain ⟨x, hx⟩ : ∃ z, P[i] = z := ⟨_, rfl⟩
      obtain ⟨y, hy⟩ : ∃ z, P[i + 1] = z := ⟨_, rfl⟩
      rw [hx] at q1 q2 qq HTT c1
      rw [hy] at q3 q4 qq c2
      have HNX2 : Hid (∀ r', ToldS (Fk k a b) y r' → ∀ h : i + 1 < P.length, ToldS (Fk k a b) P[i + 1] r') := Lib.hid (fun r' h hh => by rw [hy]; exact h)
      have HFC : Hid (∀ t, x ≤ t → t < y → Fk k a b t = Fk k a b x) := Lib.hid (fun t h1 h2 => by
        have q := PL.out.flat (i := i) hiP (t := t) (by rw [hx]; exact h1) (by rw [hy]; exact h2)
        rw [hx] at q
        exact Fk_flat q.1 q.2)
      have HHI : Hid (i + 1 < P.length) := Lib.hid hiP
      clear hx hy hc hiP HT
      obtain ⟨pa, hpa⟩ : ∃ z : Bool, Hid (z = true ↔ mem a x) := by classical exact ⟨decide _, Lib.hid decide_eq_true_iff⟩
      obtain ⟨pb, hpb⟩ : ∃ z : Bool, Hid (z = true ↔ mem b x) := by classical exact ⟨decide _, Lib.hid decide_eq_true_iff⟩
      have e : Fk k a b x = inB k pa pb := by
        unfold Fk
        have e1 : pa = @decide (mem a x) (Classical.propDecidable _) := by rw [Bool.eq_iff_iff, hpa.out]; simp
        have e2 : pb = @decide (mem b x) (Classical.propDecidable _) := by rw [Bool.eq_iff_iff, hpb.out]; simp
        rw [e1, e2]
      obtain ⟨f, hf⟩ : ∃ f, inB k pa pb = f := ⟨_, rfl⟩
      have HF : Hid (Fk k a b x = f) := Lib.hid (by rw [e, hf])
      have T1 := Lib.hid (fun j => rhas_is ao n c a x (wr.drewN j) ((HA1.out.keep HW.out).keep (below_drewN (Below.refl _ wr) j)) pa hpa.out)
      have T2 := Lib.hid (fun j => rhas_is bo m d b x (wr.drewN j) ((HBB.out.keep HW.out).keep (below_drewN (Below.refl _ wr) j)) pb hpb.out)
      have T3 := Lib.hid (fun w => in_is k pa pb f hf w)
      have i0' : (0 : Int) ≤ (i : Int) := by omega
      have i1' : (i : Int) < (N : Int) := by omega
      have i2' : (i : Int) + 1 < (N : Int) := by omega
      clear e hf
      go_upto_region 6 with fail
      go_quiet ((first | (go_at_call 28; with_reducible exact Calls.quiet_of_same (T1.out _)) | (go_at_call 28; with_reducible exact Calls.quiet_of_same (T2.out _)) | (go_at_call 69; with_reducible exact Calls.quiet_of_same (T3.out _)) | fail))
      clear T1 T2 T3
      cases f
      · have HT2 : Hid (∀ h : i + 1 < P.length, ToldS (Fk k a b) P[i + 1] r) := Lib.hid (HNX2.out _ (toldS_skip HTT.out qq HFC.out HF.out))
        have HR2 : Hid (r.length ≤ i + 1) := Lib.hid (by have := HR.out; omega)
        go_wp2
        go_roundw
        case rel => exact ⟨i + 1, r, .inr ilt, by go_num, HR2, Lib.hid (keepB HO.out (below_drewN (Below.refl _ wr) nq)), HT2, HE, Lib.hid (below_drewN HW.out nq)⟩
        case measure => simp [intOf]; omega
      · obtain ⟨W, hW⟩ : ∃ W, wr.drewN nq = W := ⟨_, rfl⟩
        have k1 := cell_keep c1 (below_drewN (Below.refl _ wr) nq)
        have k2 := cell_keep c2 (below_drewN (Below.refl _ wr) nq)
        have HOW := Lib.hid (keepB HO.out (below_drewN (Below.refl _ wr) nq))
        have HWW := Lib.hid (below_drewN HW.out nq)
        rw [hW] at k1 k2 HOW HWW
        rw [hW]
        clear hW c1 c2 HO HW
        have hrl : r.length ≤ 20000 := by have := HR.out; omega
        obtain ⟨M, hM⟩ : ∃ M, r.length = M := ⟨_, rfl⟩
        have HOM := HOW.out
        rw [hM] at HOM hrl
        have HR2 := HR.out
        rw [hM] at HR2
        obtain ⟨rao, rc, rfl, hrs⟩ := own_sp hM HOM
        have HON := Lib.hid HOM
        have HM := Lib.hid hM
        have HRM := Lib.hid HR2
        clear HOM hrs HOW HR HR2 hM
        have e1 : IntKind.i64.wrap ((i : Int) + 1) = ((i + 1 : Nat) : Int) := by rw [IntWalk.i64_in _ (by omega)]; omega
        have e2 : IntKind.i64.wrap (y - 1) = y - 1 := IntWalk.i64_in _ (by omega)
        have e3 : IntKind.i64.wrap (x - 1) = x - 1 := IntWalk.i64_in _ (by omega)
        obtain ⟨Q, hQ⟩ : ∃ Q : Nat, i + 1 = Q := ⟨_, rfl⟩
        have HQ := Lib.hid hQ
        rw [hQ] at e1
        have k2' := k2
        rw [hQ] at k2'
        have j0 : (0 : Int) ≤ (Q : Int) := by omega
        have j1 : (Q : Int) < (N : Int) := by omega
        clear k2 hQ
        by_cases h0 : r = []
        · have hm0 : M = 0 := by rw [← HM.out, h0]; rfl
          subst hm0
          have HT2 : Hid (∀ h : i + 1 < P.length, ToldS (Fk k a b) P[i + 1] (r ++ [(x, y - 1)])) := Lib.hid (HNX2.out _ (toldS_push HTT.out qq q4 HFC.out HF.out (fun o s e => by rw [h0] at e; simp at e)))
          clear h0
          go_upto_region 7 with fail
          go_quiet (fail)
          obtain ⟨V, hV⟩ : ∃ V, W.drewN nq = V := ⟨_, rfl⟩
          have v1 := cell_keep k1 (below_drewN (Below.refl _ W) nq)
          have v2 := cell_keep k2' (below_drewN (Below.refl _ W) nq)
          have HOV := Lib.hid (keepB HON.out (below_drewN (Below.refl _ W) nq))
          have HVV := Lib.hid (below_drewN HWW.out nq)
          rw [hV] at v1 v2 HOV HVV
          rw [hV]
          clear hV k1 k2' HON HWW
          have HCC : Hid (spCells r ++ [.int .i64 x, .int .i64 (y - 1)] = spCells (r ++ [(x, y - 1)])) := Lib.hid (by rw [spCells_snoc])
          have HLL : Hid (0 + 1 = (r ++ [(x, y - 1)]).length) := Lib.hid (by rw [List.length_append, HM.out]; rfl)
          have HR3 : Hid ((r ++ [(x, y - 1)]).length ≤ i + 1) := Lib.hid (by rw [List.length_append, HM.out]; exact Nat.succ_le_succ HRM.out)
          have HE3 : Hid (N = 0 → r ++ [(x, y - 1)] = []) := Lib.hid (fun h => absurd ilt (by rw [h]; exact Nat.not_lt_zero _))
          clear e3
          go_upto_region 9 with fail
          go_region_law (refine step_append_lies _ rfl _ _ 27 rfl w1.heap.size 38 i0 (.agg #[.int .i64 0, .int .i64 0]) 2 16 Tryz.underlying27 HII.out HZ0.out HZ1.out HZ2.out rfl (by decide) (.slice rao 0 rc) 0 _ rfl (keepB HOV.out (((Below.refl _ V).drew).alloc (Nat.le_refl _) _)) ⟨V.heap.size, 0, none⟩ 1 1 [.int .i64 x, .int .i64 (y - 1)] rfl rfl (cells_new2 V.drew _ _ _) (by intro z hz; simp at hz; rcases hz with rfl | rfl <;> rfl) (by decide) (by unfold maxLen; omega) (by omega) (by have := HVV.out.size; simp; omega) _ rfl ?_; intro g' cap w3 hown hgrow hat hlt; rw [HCC.out] at hown; have HO3 := Lib.hid hown; have HB3 := Lib.hid ((HVV.out.trans ((((Below.refl _ V).drew).alloc (Nat.le_refl _) _).mono HVV.out.size)).grown hgrow (Nat.le_trans HVV.out.size (by simp)) (fun q hq => (HOV.out.lt q hq).1)); clear hown hgrow hat)
          all_goals
            clear e1 e2
            go_wp2
            go_roundw
            case rel => exact ⟨i + 1, _, .inr ilt, by go_num, HR3, Lib.hid (by have q := HO3.out; have q2 := HLL.out; rw [← q2]; exact q), HT2, HE3, HB3⟩
            case measure => simp [intOf]; omega
        · obtain ⟨z, r0, hr⟩ : ∃ z r0, r = r0 ++ [z] := ⟨r.getLast h0, r.dropLast, (List.dropLast_concat_getLast h0).symm⟩
          obtain ⟨kk, hk⟩ : ∃ k, r0.length = k := ⟨_, rfl⟩
          have hmk : M = kk + 1 := by rw [← HM.out, hr]; simp [hk]
          subst hmk
          obtain ⟨gg, rfl⟩ : ∃ g, rao = some ⟨g, 0, none⟩ := by
            rcases HON.out.2 with ⟨e, _⟩ | ⟨g, cap, cur, e, _⟩
            · cases e
            · cases e; exact ⟨g, rfl⟩
          have hkr : kk < r.length := by rw [HM.out]; omega
          have q0 := spCells_at r kk hkr
          have e0 : r[kk] = z := by subst hr; subst hk; simp
          rw [e0] at q0
          obtain ⟨zx, zy⟩ := z
          simp only at q0
          have d2 := HON.out.cellAt (kk * 2 + 1) (by omega)
          rw [q0.2] at d2
          have d3 := HON.out.frozenAt (kk * 2 + 1)
          have hzz := (rt_snoc r0 _ (zx, zy)).1 (by rw [← hr]; exact HTT.out.good)
          have hz0 := nxt_le hzz.1
          have hz1 : -1099511627776 ≤ zy := by have := hzz.2.1; have := hzz.2.2.1; simp only at *; omega
          have hz2 : zy ≤ 1099511627776 := hzz.2.2.2
          clear hzz hz0
          have w1' : IntKind.i64.wrap (((kk + 1 : Nat) : Int) - 1) = (kk : Int) := by rw [IntWalk.i64_in _ (by omega)]; omega
          have k0 : (0 : Int) ≤ (kk : Int) := by omega
          have k1' : (kk : Int) < ((kk + 1 : Nat) : Int) := by omega
          have k2'' : kk < kk + 1 := by omega
          have k3 : (0 : Int) < ((kk + 1 : Nat) : Int) := by omega
          clear q0 e0
          by_cases hcmp : zy = x - 1
          · have HT2 : Hid (∀ h : i + 1 < P.length, ToldS (Fk k a b) P[i + 1] (r0 ++ [(zx, y - 1)])) := Lib.hid (HNX2.out _ (toldS_join (by rw [← hr]; exact HTT.out) qq q4 HFC.out HF.out hcmp))
            have HSET : Hid ((spCells r).set (kk * 2 + 1) (.int .i64 (y - 1)) = spCells (r0 ++ [(zx, y - 1)])) := Lib.hid (by
              have hlen : (spCells r0).length = kk * 2 := by rw [spCells_length, hk]
              rw [hr, spCells_snoc, spCells_snoc, List.set_append_right _ _ (by omega), hlen, show kk * 2 + 1 - kk * 2 = 1 by omega]; rfl)
            have HLL : Hid (kk + 1 = (r0 ++ [(zx, y - 1)]).length) := Lib.hid (by simp [hk])
            have tz : (zy == x - 1) = true := by simp; exact hcmp
            clear hcmp hr hk h0
            go_upto_region 7 with fail
            go_quiet (fail)
            obtain ⟨V, hV⟩ : ∃ V, W.drewN nq = V := ⟨_, rfl⟩
            have v1 := cell_keep k1 (below_drewN (Below.refl _ W) nq)
            have v2 := cell_keep k2' (below_drewN (Below.refl _ W) nq)
            have v3 : V.cell? ⟨gg, kk * 2 + 1, none⟩ = some (.int .i64 zy) := by rw [← hV]; exact d2
            have v4 : V.frozen? ⟨gg, kk * 2 + 1, none⟩ = false := by rw [← hV]; exact d3
            have HOV := Lib.hid (keepB HON.out (below_drewN (Below.refl _ W) nq))
            have HVV := Lib.hid (below_drewN HWW.out nq)
            rw [hV] at v1 v2 HOV HVV
            rw [hV]
            clear hV k1 k2' HON HWW d2 d3
            have hst := (HOV.out.stored (kk * 2 + 1) (.int .i64 (y - 1))).1
            rw [HSET.out] at hst
            have HO3 := Lib.hid hst
            have HB3 := Lib.hid (HVV.out.setCell (p := ⟨gg, kk * 2 + 1, none⟩) (HOV.out.lt gg rfl).1 (.int .i64 (y - 1)))
            have HR3 : Hid ((r0 ++ [(zx, y - 1)]).length ≤ i + 1) := Lib.hid (by rw [← HLL.out]; exact Nat.le_succ_of_le HRM.out)
            have HE3 : Hid (N = 0 → r0 ++ [(zx, y - 1)] = []) := Lib.hid (fun h => absurd ilt (by rw [h]; exact Nat.not_lt_zero _))
            clear hst tz e3
            go_upto_region 8 with fail
            go_upto_region 5 with fail
            clear e1 e2 w1'
            go_wp2
            go_roundw
            case rel => exact ⟨i + 1, _, .inr ilt, by go_num, HR3, Lib.hid (by rw [← HLL.out]; exact HO3.out), HT2, HE3, HB3⟩
            case measure => simp [intOf]; omega
          · have HT2 : Hid (∀ h : i + 1 < P.length, ToldS (Fk k a b) P[i + 1] (r ++ [(x, y - 1)])) := Lib.hid (HNX2.out _ (toldS_push HTT.out qq q4 HFC.out HF.out (fun o s e => by
              rw [hr] at e
              have := (List.append_inj_right' e rfl)
              cases this
              exact hcmp)))
            have tz : (zy == x - 1) = false := by simp; exact hcmp
            clear hcmp hr hk h0
            go_upto_region 7 with fail
            go_quiet (fail)
            obtain ⟨V, hV⟩ : ∃ V, W.drewN nq = V := ⟨_, rfl⟩
            have v1 := cell_keep k1 (below_drewN (Below.refl _ W) nq)
            have v2 := cell_keep k2' (below_drewN (Below.refl _ W) nq)
            have HOV := Lib.hid (keepB HON.out (below_drewN (Below.refl _ W) nq))
            have HVV := Lib.hid (below_drewN HWW.out nq)
            rw [hV] at v1 v2 HOV HVV
            rw [hV]
            clear hV k1 k2' HON HWW d2 d3
            have HCC : Hid (spCells r ++ [.int .i64 x, .int .i64 (y - 1)] = spCells (r ++ [(x, y - 1)])) := Lib.hid (by rw [spCells_snoc])
            have HLL : Hid ((kk + 1) + 1 = (r ++ [(x, y - 1)]).length) := Lib.hid (by rw [List.length_append, HM.out]; rfl)
            have HR3 : Hid ((r ++ [(x, y - 1)]).length ≤ i + 1) := Lib.hid (by rw [List.length_append, HM.out]; exact Nat.succ_le_succ HRM.out)
            have HE3 : Hid (N = 0 → r ++ [(x, y - 1)] = []) := Lib.hid (fun h => absurd ilt (by rw [h]; exact Nat.not_lt_zero _))
            clear tz e3
            go_upto_region 9 with fail
            go_region_law (refine step_append_lies _ rfl _ _ 27 rfl w1.heap.size 38 i0 (.agg #[.int .i64 0, .int .i64 0]) 2 16 Tryz.underlying27 HII.out HZ0.out HZ1.out HZ2.out rfl (by decide) (.slice (some ⟨gg, 0, none⟩) (kk + 1) rc) (kk + 1) _ rfl (keepB HOV.out (((Below.refl _ V).drew).alloc (Nat.le_refl _) _)) ⟨V.heap.size, 0, none⟩ 1 1 [.int .i64 x, .int .i64 (y - 1)] rfl rfl (cells_new2 V.drew _ _ _) (by intro z hz; simp at hz; rcases hz with rfl | rfl <;> rfl) (by decide) (by unfold maxLen; omega) (by omega) (by have := HVV.out.size; simp; omega) _ rfl ?_; intro g' cap w3 hown hgrow hat hlt; rw [HCC.out] at hown; have HO3 := Lib.hid hown; have HB3 := Lib.hid ((HVV.out.trans ((((Below.refl _ V).drew).alloc (Nat.le_refl _) _).mono HVV.out.size)).grown hgrow (Nat.le_trans HVV.out.size (by simp)) (fun q hq => (HOV.out.lt q hq).1)); clear hown hgrow hat)
            all_goals
              clear e1 e2
              go_wp2
              go_roundw
              case rel => exact ⟨i + 1, _, .inr ilt, by go_num, HR3, Lib.hid (by have q := HO3.out; have q2 := HLL.out; rw [← q2]; exact q), HT2, HE3, HB3⟩
              case measure => simp [intOf]; omega
    · have HX : Hid (Good r ∧ ∀ t, mem r t ↔ Fk k a b t = true) := Lib.hid (by
        by_cases h0 : N = 0
        · have := HE.out h0; subst this
          exact ⟨trivial, toldS_none PL.out SA.out SB.out (by rw [HN.out]; exact h0)⟩
        · have e : i = P.length - 1 := by rw [HN.out]; omega
          have ht := HT.out (by rw [HN.out]; omega)
          subst e
          exact toldS_end PL.out SA.out SB.out (by rw [HN.out]; omega) ht)
      have HRN : Hid (r.length ≤ 2 * n + 2 * m) := Lib.hid (by have := HPN.out; have := HR.out; omega)
      have HWW := Lib.hid (HB1.out.trans (HW.out.mono HB1.out.size))
      have HOO := Lib.hid (World.ownsRow.mono HO.out HB1.out.size)
      clear HT HE
      go_wp2
      go_returns
      exact ⟨_, r, rfl, HX.out.1, HX.out.2, HRN.out, HOO.out, HWW.out⟩
end Go.Proofs.YtjhbgedobkpdhaaGreat
