/- L7, L8 in one. -/
import Derived.Test.YtimjendkpjojoaaGreatDoorKae
import Derived.Test.YtimjendkpjojoaaGreatDoorKr
namespace Go.Proofs.YtimjendkpjojoaaGreatDoor
set_option linter.unusedVariables false
set_option linter.unusedSimpArgs false
open Go.ChangeShapes Go.WideShapes Go.ChangeAt Go.RowKit
/-- The cells of tokens. -/
def tkC (t : Lx.Tk) : List Value := [.int .u8 t.1, .string ⟨t.2.1.toArray⟩, .int .i64 t.2.2]
def tkCells (l : List Lx.Tk) : List Value := (l.map tkC).flatten
theorem tkCells_app (l k : List Lx.Tk) : tkCells (l ++ k) = tkCells l ++ tkCells k := by simp [tkCells]
theorem tkCells_len (l : List Lx.Tk) : (tkCells l).length = l.length * 3 := by
  induction l with
  | nil => rfl
  | cons x r ih => unfold tkCells at *; simp [tkC] at *; omega
theorem tkCells_one (l : List Lx.Tk) : ∀ u ∈ tkCells l, u.oneCell' = true := by
  intro u hu
  unfold tkCells at hu
  obtain ⟨m, hm, hu⟩ := List.mem_flatten.1 hu
  obtain ⟨t, _, rfl⟩ := List.mem_map.1 hm
  simp [tkC] at hu
  rcases hu with rfl | rfl | rfl <;> rfl
theorem info_parts' {P : Program} {t : TypeId} {z : Value} {s b : Nat} (h : (P.info? t).map (fun i => (i.zero, i.size, i.bytes)) = some (some z, s, b)) : ∃ i, P.info? t = some i ∧ i.zero = some z ∧ i.size = s ∧ i.bytes = b := by
  cases hi : P.info? t with
  | none => rw [hi] at h; cases h
  | some i =>
    rw [hi] at h
    simp at h
    exact ⟨i, rfl, h.1, h.2.1, h.2.2⟩
theorem info60 : (Tryz.prog.info? 60).map (fun i => (i.zero, i.size, i.bytes)) = some (some (.agg #[.int .u8 0, .string ⟨#[]⟩, .int .i64 0]), 3, 32) := by kernel_rfl
theorem appK {ops : Array Oper} {rest : List Oper} {o : Oper} {a : Act} {Q : Exit → Act → World → Prop} (hgd : o.guard = none) (s x : Operand)
    (ho : o.op = .call { callee := .builtin .append, args := #[s, x], argTypes := #[32, 32] }) (base : Nat) (w : World) (v : Value) (l : List Lx.Tk) (hs : a.eval s = v) (hown : w.ownsRow base 60 3 v l.length (tkCells l)) (b m c : Nat) (k : List Lx.Tk) (cs : Array Value) (hx : a.eval x = .slice (some ⟨b, 0, none⟩) m c) (hb : w.heap[b]? = some (.cells cs 60 (0, 0))) (hcs : ∀ (j : Nat) (u : Value), (tkCells k)[j]? = some u → cs[j]? = some u) (hm : k.length = m) (hn : l.length + m ≤ 1048576) (hbase : base ≤ w.heap.size)
    (h : ∀ v' w', w'.ownsRow base 60 3 v' (l ++ k).length (tkCells (l ++ k)) → w.grownBy w' v.ownBlock → wpList Tryz.prog ops Q rest (a.put o.dst v') w') : wpList Tryz.prog ops Q (o :: rest) a w := by
  obtain ⟨k0, hk, hkz0, hkz1, hkz2⟩ := info_parts' info60
  refine wpList_append_own_at _ hgd s x 32 ho base 60 k0 (.agg #[.int .u8 0, .string ⟨#[]⟩, .int .i64 0]) 3 32 Tryz.underlying32 hk hkz0 hkz1 hkz2 rfl (by decide) v l.length (tkCells l) hs hown ⟨b, 0, none⟩ m c (tkCells k) hx (by rw [tkCells_len, hm]) (fun j u hj => ?_) (tkCells_one k) (by unfold maxLen; omega) (by omega) hbase (fun v' w' a b _ _ => h v' w' (by rw [List.length_append, hm, tkCells_app]; exact a) b)
  rw [show (Addr.add ⟨b, 0, none⟩ j) = ⟨b, j, none⟩ by simp only [Addr.add, Nat.zero_add]; split <;> simp_all, cell_blk hb j]
  exact hcs j u hj
theorem keepB {w w' : World} {B e s n : Nat} {v : Value} {xs : List Value} (h : w.ownsRow B e s v n xs) (b : Below w.heap.size w w') : w'.ownsRow B e s v n xs := by
  refine ⟨h.1, ?_⟩
  rcases h.2 with hn | ⟨g, cap, cur, hv, hb, hg, rest⟩
  · exact .inl hn
  · exact .inr ⟨g, cap, cur, hv, hb, (b.block g (Array.getElem?_eq_some_iff.1 hg).1).trans hg, rest⟩
theorem pi_nil' : piOf [] = none := rfl
theorem one_cells (t : Lx.Tk) (j : Nat) (u : Value) (h : (tkCells [t])[j]? = some u) : (#[.int .u8 t.1, .string ⟨t.2.1.toArray⟩, .int .i64 t.2.2] : Array Value)[j]? = some u := by
  simpa [tkCells, tkC] using h
set_option maxHeartbeats 2000000 in
theorem words_any (s : ByteArray) (w : World) (hT : Tx w) (hs : s.size ≤ 1048576) :
    Calls Tryz.prog 9 #[.string s] w fun e w' => ∃ v', e = .returned (.tuple #[v', .int .i64 (Lx.words readOf piOf s.data.toList 0 []).2]) ∧ Hid (w'.ownsRow w.heap.size 60 3 v' (Lx.words readOf piOf s.data.toList 0 []).1.length (tkCells (Lx.words readOf piOf s.data.toList 0 []).1)) ∧ Hid (Below w.heap.size w w') := by
  obtain ⟨R, hR⟩ : ∃ R, Lx.words readOf piOf s.data.toList 0 [] = R := ⟨_, rfl⟩
  rw [hR]
  have HR := Lib.hid hR
  have HTX := Lib.hid hT
  have s1 : (s.size : Int) ≤ 1048576 := by omega
  clear hR hT
  go_enter Tryz.func9, Tryz.ntmps9
  go_wp2
  go_step3
  go_wp2
  go_step3
  go_wp2
  go_loopw [4, 5, 6, 7, 15] (fun s4 s5 s6 s7 s15 wr => ∃ (k : Nat) (acc : List Lx.Tk), k ≤ s.size ∧ acc.length ≤ k ∧ s5 = .int .i64 k ∧ Hid (Below w.heap.size w wr) ∧ Hid (wr.ownsRow w.heap.size 60 3 s4 acc.length (tkCells acc)) ∧ Hid (Lx.words readOf piOf (s.data.toList.drop k) k acc = R)) (fun s4 s5 s6 s7 s15 _ => s.size - (intOf s5).toNat)
  case atStart => exact ⟨0, [], Nat.zero_le _, Nat.le_refl _, rfl, Lib.hid (Below.refl _ _), Lib.hid (World.ownsRow_nil _ _ _ _), Lib.hid (by rw [List.drop_zero]; exact HR.out)⟩
  case round =>
    obtain ⟨k, acc, hk, hac, rfl, HB, HO, HW⟩ := hrel
    have i0 : (0 : Int) ≤ (k : Int) := by omega
    by_cases klt : k < s.size
    · have i1 : (k : Int) < s.size := by omega
      have hdr := drop_at s k klt
      obtain ⟨c, hc⟩ : ∃ c, s[k] = c := ⟨_, rfl⟩
      rw [hc] at hdr
      obtain ⟨x, hx⟩ : ∃ x : Int, (c.toNat : Int) = x := ⟨_, rfl⟩
      have hgc : ((s[k]).toNat : Int) = x := by rw [hc]; exact hx
      by_cases bl : x = 32 ∨ x = 9
      · have HW2 : Hid (Lx.words readOf piOf (s.data.toList.drop (k + 1)) (k + 1) acc = R) := Lib.hid (by
          rw [← HW.out, hdr, Lx.words_blank readOf piOf (by unfold Lx.blk; rw [decide_eq_true_iff]; omega)])
        clear hdr hc hx
        rcases bl with rfl | rfl
        · go_wp2
          go_roundw
          case rel => exact ⟨k + 1, acc, by omega, by omega, by go_num, HB, HO, HW2⟩
          case measure => simp [intOf]; omega
        · go_wp2
          go_roundw
          case rel => exact ⟨k + 1, acc, by omega, by omega, by go_num, HB, HO, HW2⟩
          case measure => simp [intOf]; omega
      · have b1 : (x == 32) = false := by simp; exact fun z => bl (.inl z)
        have b2 : (x == 9) = false := by simp; exact fun z => bl (.inr z)
        have hbk : Lx.blk c = false := by unfold Lx.blk; rw [decide_eq_false_iff_not]; omega
        have HE : Hid ((s.extract k s.size).data.toList = s.data.toList.drop k) := Lib.hid (by rw [Lib.extract_data, List.take_of_length_le]; rw [List.length_drop, ← Lib.size_eq]; omega)
        have hes : (s.extract k s.size).size = s.size - k := by rw [Lib.size_eq, HE.out, List.length_drop, ← Lib.size_eq]
        have HF := Lib.hid (first_any (s.extract k s.size) wr (HTX.out.keep HB.out) (by omega) (by omega))
        rw [HE.out] at HF
        have HHD := Lib.hid hdr
        have HBK := Lib.hid hbk
        obtain ⟨F, hF⟩ : ∃ F, Lx.first readOf piOf (s.data.toList.drop k) = F := ⟨_, rfl⟩
        rw [hF] at HF
        have HFF := Lib.hid hF
        clear hF hdr hc hx bl hbk hes
        cases F with
        | none =>
          obtain rfl : R = ([], (k : Int)) := by
            rw [← HW.out, HHD.out]
            exact Lx.words_none readOf piOf HBK.out (by rw [← HHD.out]; exact HFF.out) k acc
          have HF : Hid (Calls Tryz.prog 24 #[.string (s.extract k s.size)] wr fun e w' => e = .returned (.tuple #[.agg #[.int .u8 0, .string ⟨#[]⟩, .int .i64 0], .int .i64 0]) ∧ Below wr.heap.size wr w') := HF
          clear HFF HW HO HR
          go_wp2_with fail
          (with_reducible refine HF.out.mono ?_)
          rintro e w2 ⟨rfl, q⟩
          have HB2 := Lib.hid ((HB.out.trans (q.mono HB.out.size)).alloc (Nat.le_trans HB.out.size q.size) (.cells #[.int .u8 0, .string ⟨#[]⟩, .int .i64 0] 60))
          clear q HF
          go_wp2
          rw [Exit.noGoto_ret]
          go_returns
          exact ⟨_, rfl, Lib.hid (World.ownsRow_nil _ _ _ _), HB2⟩
        | some y =>
          obtain ⟨⟨a1, a2, a3⟩, n⟩ := y
          have hpos := Lx.first_pos readOf piOf pi_nil' HFF.out
          rw [List.length_drop, ← Lib.size_eq] at hpos
          have HW2 : Hid (Lx.words readOf piOf (s.data.toList.drop (k + n)) (k + n) (acc ++ [(a1, a2, a3)]) = R) := Lib.hid (by
            rw [← HW.out, HHD.out, Lx.words_some readOf piOf HBK.out (by rw [← HHD.out]; exact HFF.out), List.drop_drop]
            congr 2
            omega)
          have HF : Hid (Calls Tryz.prog 24 #[.string (s.extract k s.size)] wr fun e w' => e = .returned (.tuple #[.agg #[.int .u8 a1, .string ⟨a2.toArray⟩, .int .i64 a3], .int .i64 (n : Int)]) ∧ Below wr.heap.size wr w') := HF
          have n0 : (1 : Int) ≤ (n : Int) := by omega
          have n1 : (n : Int) ≤ 1048576 := by omega
          have n2 : ((n : Int) == 0) = false := by simp; omega
          have hkn : k + n ≤ s.size := by omega
          have HKN : Hid (acc.length + 1 ≤ 1048576) := Lib.hid (by omega)
          have n3 : (k : Int) + (n : Int) ≤ 1048576 := by omega
          have hac2 : (acc ++ [((a1, a2, a3) : Lx.Tk)]).length ≤ k + n := by simp; omega
          have HAC := Lib.hid hac2
          clear HFF HW HR hpos hac2
          go_wp2_with fail
          (with_reducible refine HF.out.mono ?_)
          rintro e w2 ⟨rfl, q⟩
          have HB2 := Lib.hid (HB.out.trans (q.mono HB.out.size))
          have HO2 := Lib.hid (keepB HO.out q)
          clear q HF HO HB
          go_wp2_with (at_builtin; go_loud (refine appK rfl _ _ rfl w.heap.size _ u4 acc rfl ((HO2.out.alloc _).alloc _) (w2.heap.size + 1) 1 1 [((a1, a2, a3) : Lx.Tk)] #[.int .u8 a1, .string ⟨a2.toArray⟩, .int .i64 a3] rfl (by rw [show w2.heap.size + 1 = (w2.alloc (.cells #[.int .u8 a1, .string ⟨a2.toArray⟩, .int .i64 a3] 60)).heap.size by simp]; exact al_new _ _) (one_cells (a1, a2, a3)) rfl HKN.out (by have := HB2.out.size; simp; omega) ?_); intro v6 w6 HO6 HG6; have HO6 := Lib.hid HO6; have HG6 := Lib.hid HG6)
          have HB3 : Hid (Below w.heap.size w w6) := Lib.hid (by
            have K1 := HB2.out.alloc HB2.out.size (.cells #[.int .u8 a1, .string ⟨a2.toArray⟩, .int .i64 a3] 60)
            have K2 := K1.alloc K1.size (.cells #[.int .u8 a1, .string ⟨a2.toArray⟩, .int .i64 a3] 60)
            exact K2.grown HG6.out K2.size (fun q e => (HO2.out.lt q e).1))
          clear HG6 HO2 HB2
          go_roundw
          case rel => exact ⟨k + n, acc ++ [(a1, a2, a3)], hkn, HAC.out, by go_num, HB3, HO6, HW2⟩
          case measure => simp [intOf]; omega
    · obtain rfl : k = s.size := by omega
      obtain rfl : R = (acc, -1) := by
        rw [← HW.out, List.drop_of_length_le (by rw [← Lib.size_eq]; exact Nat.le_refl _), Lx.words_nil]
      clear HW HR
      obtain ⟨ao, c, rfl⟩ : ∃ ao c, u4 = .slice ao acc.length c := by
        rcases HO.out.2 with ⟨e, z⟩ | ⟨g, cap, cur, e, _⟩
        · exact ⟨none, 0, by rw [e, z]⟩
        · exact ⟨_, cap, e⟩
      go_wp2
      try rw [Exit.noGoto_ret]
      go_returns
      exact ⟨_, rfl, HO, HB⟩
/-- A list of tokens in memory. -/
structure TkAt (w : World) (ao : Option Addr) (n c : Nat) (l : List Lx.Tk) : Prop where
  len : l.length = n
  le : n ≤ c
  top : c ≤ 9223372036854775807
  bare : ao = none → n = 0 ∧ c = 0
  here : 0 < n → ∃ b p, ao = some ⟨b, p, none⟩ ∧ ∀ i (h : i < l.length), w.cell? ⟨b, p + i * 3, none⟩ = some (.int .u8 l[i].1) ∧ w.cell? ⟨b, p + i * 3 + 1, none⟩ = some (.string ⟨l[i].2.1.toArray⟩) ∧ w.cell? ⟨b, p + i * 3 + 2, none⟩ = some (.int .i64 l[i].2.2)
theorem TkAt.keep {w w' : World} {ao : Option Addr} {n c : Nat} {l : List Lx.Tk} (h : TkAt w ao n c l) (k : Below w.heap.size w w') : TkAt w' ao n c l :=
  ⟨h.len, h.le, h.top, h.bare, fun h0 => by
    obtain ⟨b, p, e, hc⟩ := h.here h0
    exact ⟨b, p, e, fun i hi => ⟨cell_keep (hc i hi).1 k, cell_keep (hc i hi).2.1 k, cell_keep (hc i hi).2.2 k⟩⟩⟩
theorem tkCells_get : ∀ (l : List Lx.Tk) (i : Nat) (h : i < l.length), (tkCells l)[i * 3]? = some (.int .u8 l[i].1) ∧ (tkCells l)[i * 3 + 1]? = some (.string ⟨l[i].2.1.toArray⟩) ∧ (tkCells l)[i * 3 + 2]? = some (.int .i64 l[i].2.2)
  | t :: r, 0, _ => ⟨rfl, rfl, rfl⟩
  | t :: r, i + 1, h => by
    have ih := tkCells_get r i (by simpa using h)
    have e : ∀ j, (tkCells (t :: r))[j + 3]? = (tkCells r)[j]? := fun j => rfl
    refine ⟨?_, ?_, ?_⟩
    · rw [show (i + 1) * 3 = i * 3 + 3 by omega, e]; exact ih.1
    · rw [show (i + 1) * 3 + 1 = i * 3 + 1 + 3 by omega, e]; exact ih.2.1
    · rw [show (i + 1) * 3 + 2 = i * 3 + 2 + 3 by omega, e]; exact ih.2.2
theorem own_tk {w : World} {B : Nat} {v : Value} {l : List Lx.Tk} (h : w.ownsRow B 60 3 v l.length (tkCells l)) : ∃ ao c, v = .slice ao l.length c ∧ TkAt w ao l.length c l := by
  rcases h.2 with ⟨rfl, h0⟩ | ⟨g, cap, cur, rfl, _, hg, h1, h2, h3, h4⟩
  · rw [h0]
    exact ⟨none, 0, rfl, ⟨h0, Nat.le_refl _, Nat.zero_le _, fun _ => ⟨rfl, rfl⟩, fun h => absurd h (Nat.lt_irrefl _)⟩⟩
  · refine ⟨some ⟨g, 0, none⟩, cap, rfl, ⟨rfl, h1, by unfold maxLen at h2; omega, (fun e => by cases e), fun h0 => ⟨g, 0, rfl, fun i hi => ?_⟩⟩⟩
    have gt := tkCells_get l i hi
    have e : ∀ j, j < l.length * 3 → w.cell? ⟨g, 0 + j, none⟩ = (tkCells l)[j]? := fun j hj => by
      rw [Nat.zero_add, cell_blk hg, ← h4, List.getElem?_take_of_lt hj]; simp
    refine ⟨?_, ?_, ?_⟩
    · rw [e _ (by omega)]; exact gt.1
    · rw [Nat.add_assoc, e _ (by omega)]; exact gt.2.1
    · rw [Nat.add_assoc, e _ (by omega)]; exact gt.2.2
theorem row_tk {w : World} {B n : Nat} {v : Value} {xs : List Value} (h : w.ownsRow B 60 3 v n xs) : ∃ ao c, v = .slice ao n c ∧ (ao = none → c = 0) := by
  rcases h.2 with ⟨rfl, rfl⟩ | ⟨g, cap, cur, rfl, _⟩
  · exact ⟨none, 0, rfl, fun _ => rfl⟩
  · exact ⟨_, cap, rfl, fun e => by cases e⟩
end Go.Proofs.YtimjendkpjojoaaGreatDoor
