/- Contracts: the document's places. -/
import Derived.Test.YthjpnnggghfepaaR4
namespace Go.Proofs.Ythjpnnggghfepaa
set_option linter.unusedVariables false
set_option linter.unusedSimpArgs false
open Go.ChangeShapes Go.WideShapes Go.ChangeAt Go.RowKit
theorem insert_int (ao : Option Addr) (n c : Nat) (l : List Int) (x : Int) (hn : n ≤ 100000) (w : World) (hl : IntAt w ao n c l) :
    Calls Try.prog 53 #[.slice ao n c, .int .i64 x] w fun e w' => ∃ o' c', e = .returned (.slice o' (ins x l).length c') ∧ Hid (IntAt w' o' (ins x l).length c' (ins x l)) ∧ Below w.heap.size w w' := by
  refine (insert_any ao n c l x hn w hl).mono ?_
  rintro e w' ⟨v, e1, h1, h2⟩
  obtain ⟨o', c', rfl, h3⟩ := own_int rfl h1
  exact ⟨o', c', e1, Lib.hid h3, h2⟩
/-- What one span adds to the places. -/
def pl1 (o : List Int) (s : Sp) : List Int := ins (s.2 + 1) (ins s.1 o)
def pls (o : List Int) (l : List Sp) : List Int := l.foldl pl1 o
theorem pls_snoc (o : List Int) (l : List Sp) (s : Sp) : pls o (l ++ [s]) = pl1 (pls o l) s := by unfold pls; rw [List.foldl_append]; rfl
theorem pls_ok (o : List Int) (l : List Sp) (h : Inc o) : Inc (pls o l) ∧ (∀ t, t ∈ pls o l ↔ t ∈ o ∨ ∃ s ∈ l, t = s.1 ∨ t = s.2 + 1) ∧ (pls o l).length ≤ o.length + 2 * l.length := by
  induction l using snoc_ind with
  | nil => exact ⟨h, fun t => by simp [pls], by simp [pls]⟩
  | append_singleton l s ih =>
    obtain ⟨h1, h2, h3⟩ := ih
    obtain ⟨a1, a2, a3⟩ := ins_ok (x := s.1) h1
    obtain ⟨b1, b2, b3⟩ := ins_ok (x := s.2 + 1) a1
    rw [pls_snoc]
    unfold pl1
    refine ⟨b1, fun t => ?_, by simp; omega⟩
    rw [b2, a2, h2]
    constructor
    · rintro (((z | ⟨u, hu, z⟩) | z) | z)
      · exact .inl z
      · exact .inr ⟨u, List.mem_append.2 (.inl hu), z⟩
      · exact .inr ⟨s, by simp, .inl z⟩
      · exact .inr ⟨s, by simp, .inr z⟩
    · rintro (z | ⟨u, hu, z⟩)
      · exact .inl (.inl (.inl z))
      · rcases List.mem_append.1 hu with hu | hu
        · exact .inl (.inl (.inr ⟨u, hu, z⟩))
        · rw [List.mem_singleton.1 hu] at z
          rcases z with z | z
          · exact .inl (.inr z)
          · exact .inr z
theorem pls_len (o : List Int) (l : List Sp) (h : Inc o) : (pls o l).length ≤ o.length + 2 * l.length := (pls_ok o l h).2.2
set_option maxHeartbeats 2000000 in
theorem places_any (ao bo : Option Addr) (n c m d : Nat) (a b : List Sp) (hn : n ≤ 10000) (hm : m ≤ 10000) (hfa : FitL a) (hfb : FitL b) (hta : ∀ s ∈ a, s.2 ≤ 1099511627776) (htb : ∀ s ∈ b, s.2 ≤ 1099511627776) (w : World) (ha : SpAt w ao n c a) (hb : SpAt w bo m d b) :
    Calls Try.prog 41 #[.slice ao n c, .slice bo m d] w fun e w' => ∃ o' c', e = .returned (.slice o' (pls (pls [] a) b).length c') ∧ Hid (IntAt w' o' (pls (pls [] a) b).length c' (pls (pls [] a) b)) ∧ Below w.heap.size w w' := by
  have HA := Lib.hid ha
  have HB := Lib.hid hb
  have LA := Lib.hid ha.len
  have LB := Lib.hid hb.len
  have FA := Lib.hid hfa
  have FB := Lib.hid hfb
  have TA := Lib.hid hta
  have TB := Lib.hid htb
  have hmx : n ≤ 9223372036854775807 := Nat.le_trans ha.le ha.top
  have hmy : m ≤ 9223372036854775807 := Nat.le_trans hb.le hb.top
  have I0 : Inc ([] : List Int) := List.Pairwise.nil
  have IA := (pls_ok [] a I0).1
  have NA := Lib.hid (fun i => pls_len [] (a.take i) I0)
  have NB := Lib.hid (fun i => pls_len (pls [] a) (b.take i) IA)
  have NA0 := Lib.hid (pls_len [] a I0)
  clear ha hb hfa hfb hta htb I0 IA
  go_enter Try.func41, Try.ntmps41
  go_wp2
  go_loopw [5, 6] (fun v ii wr => ∃ (i : Nat) (o : Option Addr) (k : Nat), i ≤ n ∧ ii = .int .i64 i ∧ v = .slice o (pls [] (a.take i)).length k ∧ Hid (IntAt wr o (pls [] (a.take i)).length k (pls [] (a.take i))) ∧ Hid (Below w.heap.size w wr)) (fun _ ii _ => n - (intOf ii).toNat)
  case atStart => exact ⟨0, none, 0, Nat.zero_le _, rfl, rfl, Lib.hid (IntAt.nil w), Lib.hid (Below.refl _ _)⟩
  case round =>
    obtain ⟨i, o, k, hi, rfl, rfl, HI, HW⟩ := hrel
    have hN := NA.out i
    have hT := List.length_take_le i a
    by_cases ilt : i < n
    · obtain ⟨g, p, rfl, hc⟩ := HA.out.here (by omega)
      have hil : i < a.length := by rw [LA.out]; exact ilt
      have c1 := cell_keep (hc i hil).1 HW.out
      have c2 := cell_keep (hc i hil).2 HW.out
      have f1 := FA.out _ (List.getElem_mem hil)
      have f2 := TA.out _ (List.getElem_mem hil)
      have HSN : Hid (pls [] (a.take (i + 1)) = pl1 (pls [] (a.take i)) a[i]) := Lib.hid (by rw [List.take_succ_eq_append_getElem hil, pls_snoc])
      have i0' : (0 : Int) ≤ (i : Int) := by omega
      have i1' : (i : Int) < (n : Int) := by omega
      clear hc
      obtain ⟨s, hs⟩ : ∃ z, a[i] = z := ⟨_, rfl⟩
      rw [hs] at c1 c2 HSN f1 f2
      clear hs hil
      obtain ⟨x, y⟩ := s
      simp only at c1 c2 f1 f2
      obtain ⟨⟨f1, f3⟩, f4, f5⟩ := f1
      have e1 : IntKind.i64.wrap (y + 1) = y + 1 := IntWalk.i64_in _ (by omega)
      obtain ⟨L, hL⟩ : ∃ z, pls [] (a.take i) = z := ⟨_, rfl⟩
      rw [hL] at HI HSN hN
      rw [hL]
      have hLn : L.length ≤ 20000 := by simp at hN; omega
      have hLn2 : (ins x L).length ≤ 100000 := by
        have := insRun_len x L
        unfold ins; split <;> simp <;> omega
      clear hL hN hT
      have E1 := Lib.hid (fun W (h : Hid (Below w.heap.size w W ∧ IntAt W o L.length k L) ∧ W.cell? ⟨g, p + i * 2, none⟩ = some (.int .i64 x) ∧ W.cell? ⟨g, p + i * 2 + 1, none⟩ = some (.int .i64 y)) => insert_int o L.length k L x (by omega) W h.1.out.2)
      have KP : Hid (∀ W W' (h : Hid (Below w.heap.size w W ∧ IntAt W o L.length k L) ∧ W.cell? ⟨g, p + i * 2, none⟩ = some (.int .i64 x) ∧ W.cell? ⟨g, p + i * 2 + 1, none⟩ = some (.int .i64 y)), Below W.heap.size W W' → Hid (Below w.heap.size w W' ∧ IntAt W' o L.length k L) ∧ W'.cell? ⟨g, p + i * 2, none⟩ = some (.int .i64 x) ∧ W'.cell? ⟨g, p + i * 2 + 1, none⟩ = some (.int .i64 y)) := Lib.hid (fun W W' h q => ⟨Lib.hid ⟨h.1.out.1.trans (q.mono h.1.out.1.size), h.1.out.2.keep q⟩, cell_keep h.2.1 q, cell_keep h.2.2 q⟩)
      have S0 := KP.out wr wr.drew ⟨Lib.hid ⟨HW.out, HI.out⟩, c1, c2⟩ (Below.refl _ wr).drew
      have S0 := Lib.hid S0
      have HLn2 := Lib.hid hLn2
      clear c1 c2 hLn2
      go_upto_region 5 with fail
      go_region_held3 (fun W => Hid (Below w.heap.size w W ∧ IntAt W o L.length k L) ∧ W.cell? ⟨g, p + i * 2, none⟩ = some (.int .i64 x) ∧ W.cell? ⟨g, p + i * 2 + 1, none⟩ = some (.int .i64 y)) (first | exact S0.out | exact S2.out | exact S1.out)
        ((first
          | (go_at_call 53; (with_reducible refine (E1.out _ (by assumption)).mono ?_); rintro e z ⟨o1, k1, rfl, HI1, q1⟩; have S1 := Lib.hid (KP.out _ _ (by assumption) q1))
          | (go_at_call 53; (with_reducible refine (insert_int o1 _ k1 (ins x L) (y + 1) HLn2.out _ HI1.out).mono ?_); rintro e z2 ⟨o2, k2, rfl, HI2, q2⟩; have S2 := Lib.hid (KP.out _ _ (by assumption) q2))
          | fail))
      clear e1
      have HE : Hid (pls [] (a.take (i + 1)) = ins (y + 1) (ins x L)) := Lib.hid HSN.out
      go_wp2
      go_roundw
      case rel => exact ⟨i + 1, o2, k2, by omega, by go_num, by rw [HE.out], by rw [HE.out]; exact HI2, Lib.hid S2.out.1.out.1⟩
      case measure => simp [intOf]; omega
    · obtain rfl : i = n := by omega
      have HT : Hid (a.take i = a) := Lib.hid (List.take_of_length_le (by rw [LA.out]; exact Nat.le_refl _))
      rw [HT.out] at HI ⊢
      clear hN hT HT
      have hN0 := NA0.out
      have hA0' : (pls [] a).length ≤ 20000 := by have := LA.out; simp only [List.length_nil] at hN0; omega
      obtain ⟨A0, hA00⟩ : ∃ z, pls [] a = z := ⟨_, rfl⟩
      have HA0 := Lib.hid hA00
      have HI0 := HI
      rw [hA00] at HI0 NB hA0'
      rw [hA00]
      have hA0 := hA0'
      clear hN0 hA0' hA00 HI NA0
      go_wp2
      go_loopw [5, 7] (fun v ii wr => ∃ (i : Nat) (o : Option Addr) (k : Nat), i ≤ m ∧ ii = .int .i64 i ∧ v = .slice o (pls A0 (b.take i)).length k ∧ Hid (IntAt wr o (pls A0 (b.take i)).length k (pls A0 (b.take i))) ∧ Hid (Below w.heap.size w wr)) (fun _ ii _ => m - (intOf ii).toNat)
      case atStart => exact ⟨0, o, k, Nat.zero_le _, rfl, rfl, HI0, HW⟩
      case round =>
        obtain ⟨i, o, k, hi, rfl, rfl, HI, HW⟩ := hrel
        have hN := NB.out i
        have hT := List.length_take_le i b
        by_cases ilt : i < m
        · obtain ⟨g, p, rfl, hc⟩ := HB.out.here (by omega)
          have hil : i < b.length := by rw [LB.out]; exact ilt
          have c1 := cell_keep (hc i hil).1 HW.out
          have c2 := cell_keep (hc i hil).2 HW.out
          have f1 := FB.out _ (List.getElem_mem hil)
          have f2 := TB.out _ (List.getElem_mem hil)
          have HSN : Hid (pls A0 (b.take (i + 1)) = pl1 (pls A0 (b.take i)) b[i]) := Lib.hid (by rw [List.take_succ_eq_append_getElem hil, pls_snoc])
          have i0' : (0 : Int) ≤ (i : Int) := by omega
          have i1' : (i : Int) < (m : Int) := by omega
          clear hc
          obtain ⟨s, hs⟩ : ∃ z, b[i] = z := ⟨_, rfl⟩
          rw [hs] at c1 c2 HSN f1 f2
          clear hs hil
          obtain ⟨x, y⟩ := s
          simp only at c1 c2 f1 f2
          obtain ⟨⟨f1, f3⟩, f4, f5⟩ := f1
          have e1 : IntKind.i64.wrap (y + 1) = y + 1 := IntWalk.i64_in _ (by omega)
          obtain ⟨L, hL⟩ : ∃ z, pls A0 (b.take i) = z := ⟨_, rfl⟩
          rw [hL] at HI HSN hN
          rw [hL]
          have hLn : L.length ≤ 40000 := by have := hA0; omega
          have hLn2 : (ins x L).length ≤ 100000 := by
            have := insRun_len x L
            unfold ins; split <;> simp <;> omega
          clear hL hN hT
          have E1 := Lib.hid (fun W (h : Hid (Below w.heap.size w W ∧ IntAt W o L.length k L) ∧ W.cell? ⟨g, p + i * 2, none⟩ = some (.int .i64 x) ∧ W.cell? ⟨g, p + i * 2 + 1, none⟩ = some (.int .i64 y)) => insert_int o L.length k L x (by omega) W h.1.out.2)
          have KP : Hid (∀ W W' (h : Hid (Below w.heap.size w W ∧ IntAt W o L.length k L) ∧ W.cell? ⟨g, p + i * 2, none⟩ = some (.int .i64 x) ∧ W.cell? ⟨g, p + i * 2 + 1, none⟩ = some (.int .i64 y)), Below W.heap.size W W' → Hid (Below w.heap.size w W' ∧ IntAt W' o L.length k L) ∧ W'.cell? ⟨g, p + i * 2, none⟩ = some (.int .i64 x) ∧ W'.cell? ⟨g, p + i * 2 + 1, none⟩ = some (.int .i64 y)) := Lib.hid (fun W W' h q => ⟨Lib.hid ⟨h.1.out.1.trans (q.mono h.1.out.1.size), h.1.out.2.keep q⟩, cell_keep h.2.1 q, cell_keep h.2.2 q⟩)
          have S0 := KP.out wr wr.drew ⟨Lib.hid ⟨HW.out, HI.out⟩, c1, c2⟩ (Below.refl _ wr).drew
          have S0 := Lib.hid S0
          have HLn2 := Lib.hid hLn2
          clear c1 c2 hLn2
          go_upto_region 9 with fail
          go_region_held3 (fun W => Hid (Below w.heap.size w W ∧ IntAt W o L.length k L) ∧ W.cell? ⟨g, p + i * 2, none⟩ = some (.int .i64 x) ∧ W.cell? ⟨g, p + i * 2 + 1, none⟩ = some (.int .i64 y)) (first | exact S0.out | exact S2.out | exact S1.out)
            ((first
              | (go_at_call 53; (with_reducible refine (E1.out _ (by assumption)).mono ?_); rintro e z ⟨o1, k1, rfl, HI1, q1⟩; have S1 := Lib.hid (KP.out _ _ (by assumption) q1))
              | (go_at_call 53; (with_reducible refine (insert_int o1 _ k1 (ins x L) (y + 1) HLn2.out _ HI1.out).mono ?_); rintro e z2 ⟨o2, k2, rfl, HI2, q2⟩; have S2 := Lib.hid (KP.out _ _ (by assumption) q2))
              | fail))
          clear e1
          have HE : Hid (pls A0 (b.take (i + 1)) = ins (y + 1) (ins x L)) := Lib.hid HSN.out
          go_wp2
          go_roundw
          case rel => exact ⟨i + 1, o2, k2, by omega, by go_num, by rw [HE.out], by rw [HE.out]; exact HI2, Lib.hid S2.out.1.out.1⟩
          case measure => simp [intOf]; omega
        · obtain rfl : i = m := by omega
          have HT : Hid (b.take i = b) := Lib.hid (List.take_of_length_le (by rw [LB.out]; exact Nat.le_refl _))
          rw [HT.out] at HI ⊢
          clear hN hT HT
          go_wp2
          go_returns
          exact ⟨o, k, by rw [HA0.out]; rfl, by rw [HA0.out]; exact HI, HW.out⟩
end Go.Proofs.Ythjpnnggghfepaa
