/- Names, plainly; appended lists. -/
import Derived.Test.YtgealkflfmeicaaDoorE10
import Derived.Laws.AppendOwnNone
namespace Go.Proofs.YtgealkflfmeicaaDoor
set_option linter.unusedVariables false
set_option linter.unusedSimpArgs false
open Go.ChangeShapes Go.WideShapes Go.ChangeAt Go.RowKit
/-- The parts do not hang on the depth at which they are told. -/
theorem ex_parts {w : World} : ∀ {n : Nat} {v : Value} {F : Tour}, ExAt w n v F → ∀ d e, (F d).map (fun x => x.1) = (F e).map (fun x => x.1)
  | 0, _, _, h => h.elim
  | n + 1, v, F, h => by
    obtain ⟨p, an, nn, nc, aa, ac, Fs, _, _, hl, rfl, hc⟩ := h
    intro d e
    have key : ∀ G ∈ Fs, ∀ d e, (G d).map (fun x => x.1) = (G e).map (fun x => x.1) := fun G hG => by
      obtain ⟨i, hi, rfl⟩ := List.getElem_of_mem hG
      obtain ⟨b, q, _, hx⟩ := hc (by omega)
      obtain ⟨x0, x1, x2, x3, _, _, _, _, hr⟩ := hx i hi
      exact ex_parts hr
    show p :: (flat Fs (d + 1)).map (fun x => x.1) = p :: (flat Fs (e + 1)).map (fun x => x.1)
    congr 1
    unfold flat
    rw [List.map_flatten, List.map_flatten, List.map_map, List.map_map]
    congr 1
    exact List.map_congr_left fun G hG => key G hG (d + 1) (e + 1)
theorem ex_len {w : World} {n : Nat} {v : Value} {F : Tour} (h : ExAt w n v F) (d e : Int) : (F d).length = (F e).length := by
  have := congrArg List.length (ex_parts h d e)
  simpa using this
/-- The names of parts, put behind others. -/
noncomputable def nAdd (l : List ByteArray) (p : Pt) : List ByteArray := (nStep l p 0).1
noncomputable def nAll (l : List ByteArray) (ps : List Pt) : List ByteArray := ps.foldl nAdd l
theorem run_nm : ∀ (l : List (Pt × Int)) (a : List ByteArray), run nStep a l = (nAll a (l.map (fun x => x.1)), true)
  | [], a => rfl
  | x :: r, a => by
    have e : nStep a x.1 x.2 = (nAdd a x.1, true) := rfl
    rw [run_t (by rw [e]), e, run_nm r]
    rfl
theorem nms_all (l : List (Pt × Int)) : nmsOf l = nAll [] (l.map (fun x => x.1)) := by unfold nmsOf; rw [run_nm]
theorem nAdd_skip {l : List ByteArray} {p : Pt} (h : p.nm = ⟨#[]⟩) : nAdd l p = l := by unfold nAdd; rw [nStep_skip h]
theorem nAdd_old {l : List ByteArray} {p : Pt} (h : p.nm ∈ l) : nAdd l p = l := by unfold nAdd; rw [nStep_old h]
theorem nAdd_new {l : List ByteArray} {p : Pt} (h : ¬ p.nm ∈ l) (h2 : ¬ p.nm = ⟨#[]⟩) : nAdd l p = l ++ [p.nm] := by unfold nAdd; rw [nStep_add h h2]
/-- What of a list is not in another one. -/
noncomputable def rest (A Z : List ByteArray) : List ByteArray := Z.filter (fun s => !isIn s A)
theorem rest_snoc (A Z : List ByteArray) (s : ByteArray) : rest A (Z ++ [s]) = if isIn s A = true then rest A Z else rest A Z ++ [s] := by
  unfold rest
  rw [List.filter_append]
  cases h : isIn s A <;> simp [h]
theorem mem_rest (A Z : List ByteArray) (s : ByteArray) : s ∈ rest A Z ↔ s ∈ Z ∧ ¬ s ∈ A := by
  unfold rest
  rw [List.mem_filter]
  have := isIn_iff s A
  cases h : isIn s A <;> simp_all
theorem nAll_rest (A : List ByteArray) : ∀ (L : List Pt) (Z : List ByteArray), nAll (A ++ rest A Z) L = A ++ rest A (nAll Z L)
  | [], Z => rfl
  | p :: r, Z => by
    show nAll (nAdd (A ++ rest A Z) p) r = A ++ rest A (nAll (nAdd Z p) r)
    by_cases h0 : p.nm = ⟨#[]⟩
    · rw [nAdd_skip h0, nAdd_skip h0]; exact nAll_rest A r Z
    · by_cases h1 : p.nm ∈ A
      · rw [nAdd_old (List.mem_append_left _ h1)]
        by_cases h2 : p.nm ∈ Z
        · rw [nAdd_old h2]; exact nAll_rest A r Z
        · rw [nAdd_new h2 h0, ← nAll_rest A r (Z ++ [p.nm]), rest_snoc, if_pos ((isIn_iff _ _).2 h1)]
      · by_cases h2 : p.nm ∈ Z
        · rw [nAdd_old h2, nAdd_old (List.mem_append_right _ ((mem_rest A Z p.nm).2 ⟨h2, h1⟩))]; exact nAll_rest A r Z
        · rw [nAdd_new h2 h0, nAdd_new (by rw [List.mem_append]; rintro (h | h); exact h1 h; exact h2 ((mem_rest A Z p.nm).1 h).1) h0, ← nAll_rest A r (Z ++ [p.nm]), rest_snoc, if_neg (fun h => h1 ((isIn_iff _ _).1 h)), List.append_assoc]
theorem nms_two {w : World} {n m : Nat} {v u : Value} {F G : Tour} (hF : ExAt w n v F) (hG : ExAt w m u G) (p : Pt) (h : p.nm = ⟨#[]⟩) :
    nmsOf ((p, 1) :: (F (1 + 1) ++ G (1 + 1))) = nmsOf (F 1) ++ rest (nmsOf (F 1)) (nmsOf (G 1)) := by
  rw [nms_all, nms_all, nms_all, List.map_cons, List.map_append, ex_parts hF (1 + 1) 1, ex_parts hG (1 + 1) 1]
  show nAll (nAdd [] p) (_ ++ _) = _
  rw [nAdd_skip h]
  unfold nAll
  rw [List.foldl_append]
  have := nAll_rest (List.foldl nAdd [] ((F 1).map (fun x => x.1))) ((G 1).map (fun x => x.1)) []
  unfold nAll at this
  rw [← this]
  simp [rest]
theorem mem_nAll : ∀ (L : List Pt) (Z : List ByteArray) (s : ByteArray), s ∈ nAll Z L ↔ s ∈ Z ∨ (¬ s = ⟨#[]⟩ ∧ ∃ p ∈ L, p.nm = s)
  | [], Z, s => by simp [nAll]
  | p :: r, Z, s => by
    show s ∈ nAll (nAdd Z p) r ↔ _
    rw [mem_nAll r]
    by_cases h0 : p.nm = ⟨#[]⟩
    · rw [nAdd_skip h0]
      constructor
      · rintro (h | ⟨a, q, b, c⟩)
        · exact .inl h
        · exact .inr ⟨a, q, List.mem_cons_of_mem _ b, c⟩
      · rintro (h | ⟨a, q, b, c⟩)
        · exact .inl h
        · rcases List.mem_cons.1 b with rfl | b
          · exact absurd (c.symm.trans h0) a
          · exact .inr ⟨a, q, b, c⟩
    · by_cases h1 : p.nm ∈ Z
      · rw [nAdd_old h1]
        constructor
        · rintro (h | ⟨a, q, b, c⟩)
          · exact .inl h
          · exact .inr ⟨a, q, List.mem_cons_of_mem _ b, c⟩
        · rintro (h | ⟨a, q, b, c⟩)
          · exact .inl h
          · rcases List.mem_cons.1 b with rfl | b
            · exact .inl (c ▸ h1)
            · exact .inr ⟨a, q, b, c⟩
      · rw [nAdd_new h1 h0, List.mem_append, List.mem_singleton]
        constructor
        · rintro ((h | rfl) | ⟨a, q, b, c⟩)
          · exact .inl h
          · exact .inr ⟨h0, p, List.mem_cons_self .., rfl⟩
          · exact .inr ⟨a, q, List.mem_cons_of_mem _ b, c⟩
        · rintro (h | ⟨a, q, b, c⟩)
          · exact .inl (.inl h)
          · rcases List.mem_cons.1 b with rfl | b
            · exact .inl (.inr c.symm)
            · exact .inr ⟨a, q, b, c⟩
theorem mem_nms (l : List (Pt × Int)) (s : ByteArray) : s ∈ nmsOf l ↔ ¬ s = ⟨#[]⟩ ∧ ∃ x ∈ l, x.1.nm = s := by
  rw [nms_all, mem_nAll]
  constructor
  · rintro (h | ⟨a, p, b, c⟩)
    · cases h
    · obtain ⟨x, hx, rfl⟩ := List.mem_map.1 b
      exact ⟨a, x, hx, c⟩
  · rintro ⟨a, x, hx, c⟩
    exact .inr ⟨a, x.1, List.mem_map.2 ⟨x, hx, rfl⟩, c⟩
/-- Somewhere there is a leaf. -/
theorem ex_leaf {w : World} : ∀ {n : Nat} {v : Value} {F : Tour}, ExAt w n v F → ∀ d, ∃ x ∈ F d, x.1.k = 0
  | 0, _, _, h => h.elim
  | n + 1, v, F, h => by
    obtain ⟨p, an, nn, nc, aa, ac, Fs, _, _, hl, rfl, hc⟩ := h
    intro d
    by_cases hk : p.k = 0
    · exact ⟨(p, d), List.mem_cons_self .., hk⟩
    · obtain ⟨b, q, _, hx⟩ := hc (by omega)
      obtain ⟨x0, x1, x2, x3, _, _, _, _, hr⟩ := hx 0 (by omega)
      obtain ⟨y, hy, hy0⟩ := ex_leaf hr (d + 1)
      refine ⟨y, List.mem_cons_of_mem _ ?_, hy0⟩
      unfold flat
      exact List.mem_flatten.2 ⟨_, List.mem_map.2 ⟨Fs[0]'(by omega), List.getElem_mem _, rfl⟩, hy⟩
theorem fit_leaf {p : Pt} (h : FitP p) (h0 : 0 ≤ p.op) (hk : p.k = 0) : p.op = 0 ∧ RName p.nm := by
  have a := h.args
  rw [hk] at a
  have o := h.op
  have b := (aN_bd p.op.toNat (by omega)).2.2 a.symm
  have e : p.op = 0 := by omega
  have n := h.name
  rw [if_pos e] at n
  exact ⟨e, n⟩
/-- All parts lie as parts do. -/
theorem ex_heads {w : World} : ∀ {n : Nat} {v : Value} {F : Tour}, ExAt w n v F → ∀ d, ∀ x ∈ F d, 0 ≤ x.1.op ∧ x.1.nm.size ≤ maxLen
  | 0, _, _, h => h.elim
  | n + 1, v, F, h => by
    obtain ⟨p, an, nn, nc, aa, ac, Fs, _, hh, hl, rfl, hc⟩ := h
    intro d x hx
    rcases List.mem_cons.1 hx with rfl | hx
    · exact ⟨hh.o1, hh.nmle⟩
    · unfold flat at hx
      obtain ⟨l, hl2, hx⟩ := List.mem_flatten.1 hx
      obtain ⟨G, hG, rfl⟩ := List.mem_map.1 hl2
      obtain ⟨i, hi, rfl⟩ := List.getElem_of_mem hG
      obtain ⟨b, q, _, hx2⟩ := hc (by omega)
      obtain ⟨x0, x1, x2, x3, _, _, _, _, hr⟩ := hx2 i hi
      exact ex_heads hr (d + 1) x hx
theorem right_ne {w : World} {n : Nat} {v : Value} {F : Tour} (h : ExAt w n v F) (hr : RightL (F 1)) : nmsOf (F 1) ≠ [] := by
  obtain ⟨x, hx, hk⟩ := ex_leaf h 1
  obtain ⟨_, hn⟩ := fit_leaf (hr.2 x hx).2 (ex_heads h 1 x hx).1 hk
  intro e
  have : x.1.nm ∈ nmsOf (F 1) := (mem_nms _ _).2 ⟨fun z => by have := hn.lo; rw [z] at this; exact absurd this (by decide), x, hx, rfl⟩
  rw [e] at this
  cases this
theorem right_names {w : World} {n : Nat} {v : Value} {F : Tour} (h : ExAt w n v F) (hr : RightL (F 1)) (s : ByteArray) (hs : s ∈ nmsOf (F 1)) : RightL [(pt0 0 s [] 0, (1 : Int))] := by
  obtain ⟨hne, x, hx, rfl⟩ := (mem_nms _ _).1 hs
  have hf := (hr.2 x hx).2
  have hn := hf.name
  have hr2 : RName x.1.nm := by
    by_cases z : x.1.op = 0
    · rw [if_pos z] at hn; exact hn
    · rw [if_neg z] at hn; exact absurd hn hne
  refine ⟨by show (1 : Nat) ≤ 2000; decide, fun y hy => ?_⟩
  rw [List.mem_singleton] at hy
  subst hy
  exact ⟨by show (1 : Int) ≤ 40; decide, ⟨(by show (0 : Int) ≤ 12; decide), (by show ((0 : Nat) : Int) = nN 0; decide), (by show ((0 : Nat) : Int) = aN 0; decide), by rw [if_pos (show (pt0 0 x.1.nm [] 0).op = 0 from rfl)]; exact hr2⟩⟩
theorem appT {ops : Array Oper} {rest : List Oper} {o : Oper} {a : Act} {Q : Exit → Act → World → Prop} (hgd : o.guard = none) (s x : Operand)
    (ho : o.op = .call { callee := .builtin .append, args := #[s, x], argTypes := #[34, 34] }) (base : Nat) (w : World) (v : Value) (n : Nat) (xs : List Value) (hs : a.eval s = v) (hown : w.ownsRow base 9 1 v n xs) (ao : Option Addr) (m c : Nat) (l : List ByteArray) (hx : a.eval x = .slice ao m c) (hst : StAt w ao m c l) (hc0 : ao = none → c = 0) (hn : n + m ≤ 4194304) (hbase : base ≤ w.heap.size)
    (h : ∀ v' w', w'.ownsRow base 9 1 v' (n + m) (xs ++ l.map Value.string) → w.grownBy w' v.ownBlock → wpList Tryd.prog ops Q rest (a.put o.dst v') w') : wpList Tryd.prog ops Q (o :: rest) a w := by
  obtain ⟨k0, hk, hkz0, hkz1, hkz2⟩ := info_parts info9
  cases ao with
  | none =>
    obtain rfl := hst.bare rfl
    obtain rfl := hc0 rfl
    have hl : l = [] := List.eq_nil_of_length_eq_zero hst.len
    subst hl
    refine wpList_append_own_none hgd s x 34 ho base 9 k0 1 Tryd.underlying34 hk v n xs hs hown hx (h v w (by simpa using hown) ⟨rfl, rfl, rfl, Nat.le_refl _, fun _ _ _ => rfl⟩)
  | some ad =>
    refine wpList_append_own_at _ hgd s x 34 ho base 9 k0 (.string ⟨#[]⟩) 1 16 Tryd.underlying34 hk hkz0 hkz1 hkz2 rfl (by decide) v n xs hs hown ad m c (l.map Value.string) hx (by rw [List.length_map, hst.len, Nat.mul_one]) (fun j u hj => ?_) (fun u hu => ?_) (by unfold maxLen; omega) (by omega) hbase (fun v' w' a b _ _ => h v' w' a b)
    · have hj2 : j < l.length := by
        have := (List.getElem?_eq_some_iff.1 hj).1
        simpa using this
      obtain ⟨b, e, hx2⟩ := hst.here (by have := hst.len; omega)
      cases e
      rw [show (Addr.add ⟨b, 0, none⟩ j) = ⟨b, j, none⟩ by simp only [Addr.add, Nat.zero_add]; split <;> simp_all, hx2 j hj2]
      rw [List.getElem?_map, List.getElem?_eq_getElem hj2] at hj
      exact hj
    · obtain ⟨y, _, rfl⟩ := List.mem_map.1 hu
      rfl
end Go.Proofs.YtgealkflfmeicaaDoor
