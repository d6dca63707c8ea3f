/- lex: Text. -/
import Derived.Test.YthkddellilhhaaaGreatDoorL11
namespace Go.Proofs.YthkddellilhhaaaGreatDoor
set_option linter.unusedVariables false
set_option linter.unusedSimpArgs false
open Go.ChangeShapes Go.WideShapes Go.ChangeAt Go.RowKit
/-- Tokens as a type has them. -/
def TkB (l : List Lx.Tk) : Prop := ∀ t ∈ l, (0 ≤ t.1 ∧ t.1 ≤ 255) ∧ t.2.1.length ≤ maxLen ∧ -9223372036854775808 ≤ t.2.2 ∧ t.2.2 ≤ 9223372036854775807
noncomputable def texts (l : List Lx.Tk) : List (List UInt8) := (l.filter rightT).map textT
noncomputable def joinT (l : List Lx.Tk) : List UInt8 := Lib.join (texts l) [32]
def strs (x : List (List UInt8)) : List Value := x.map (fun s => Value.string ⟨s.toArray⟩)
theorem texts_app (a b : List Lx.Tk) : texts (a ++ b) = texts a ++ texts b := by simp [texts]
theorem texts_len (l : List Lx.Tk) : (texts l).length ≤ l.length := by
  unfold texts
  rw [List.length_map]
  exact List.length_filter_le _ _
theorem texts_small (l : List Lx.Tk) (h : TkB l) : ∀ x ∈ texts l, x.length ≤ 30 := by
  intro x hx
  unfold texts at hx
  obtain ⟨t, ht, rfl⟩ := List.mem_map.1 hx
  obtain ⟨h1, h2⟩ := List.mem_filter.1 ht
  exact text_len h2 (h t h1).2.2.1 (h t h1).2.2.2
theorem join_len : ∀ (x : List (List UInt8)), (∀ y ∈ x, y.length ≤ 30) → (Lib.join x [32]).length ≤ 31 * x.length
  | [], _ => by simp [Lib.join_nil]
  | y :: r, h => by
    rw [Lib.join_cons]
    have hy := h y List.mem_cons_self
    have hr : ∀ r : List (List UInt8), (∀ y ∈ r, y.length ≤ 30) → (Lib.joinTail [32] r).length ≤ 31 * r.length := by
      intro r
      induction r with
      | nil => intro _; simp [Lib.joinTail]
      | cons z q ih =>
        intro h
        have a := ih (fun y hy => h y (List.mem_cons_of_mem _ hy))
        have b := h z List.mem_cons_self
        unfold Lib.joinTail at *
        simp at *
        omega
    have := hr r (fun z hz => h z (List.mem_cons_of_mem _ hz))
    simp; omega
theorem info9s : (Tryz.prog.info? 9).map (fun i => (i.zero, i.size, i.bytes)) = some (some (.string ⟨#[]⟩), 1, 16) := by kernel_rfl
theorem appS {ops : Array Oper} {rest : List Oper} {o : Oper} {a : Act} {Q : Exit → Act → World → Prop} (hgd : o.guard = none) (s x : Operand)
    (ho : o.op = .call { callee := .builtin .append, args := #[s, x], argTypes := #[43, 43] }) (base : Nat) (w : World) (v : Value) (n : Nat) (xs : List Value) (hs : a.eval s = v) (hown : w.ownsRow base 9 1 v n xs) (b m : Nat) (cs : Array Value) (hx : a.eval x = .slice (some ⟨b, 0, none⟩) m m) (hb : w.heap[b]? = some (.cells cs 9 (0, 0))) (hl : cs.toList.length = m) (h1 : ∀ u ∈ cs.toList, u.oneCell' = true) (hn : n + m ≤ 4194304) (hbase : base ≤ w.heap.size)
    (h : ∀ v' w', w'.ownsRow base 9 1 v' (n + m) (xs ++ cs.toList) → w.grownBy w' v.ownBlock → wpList Tryz.prog ops Q rest (a.put o.dst v') w') : wpList Tryz.prog ops Q (o :: rest) a w := by
  obtain ⟨k0, hk, hkz0, hkz1, hkz2⟩ := info_parts' info9s
  exact wpList_append_own_at _ hgd s x 43 ho base 9 k0 (.string ⟨#[]⟩) 1 16 Tryz.underlying43 hk hkz0 hkz1 hkz2 rfl (by decide) v n xs hs hown ⟨b, 0, none⟩ m m cs.toList hx (by rw [hl, Nat.mul_one]) (fun j u hj => by
      rw [show (Addr.add ⟨b, 0, none⟩ j) = ⟨b, j, none⟩ by simp only [Addr.add, Nat.zero_add]; split <;> simp_all, cell_blk hb j]
      simpa using hj) h1 (by unfold maxLen; omega) (by omega) hbase (fun v' w' a b _ _ => h v' w' a b)
/-- A row of texts, joined. -/
theorem joined_any (B : Nat) (v : Value) (x : List (List UInt8)) (w : World) (hv : w.ownsRow B 9 1 v x.length (strs x)) (hl : x.length ≤ 1048576) (hs : ∀ y ∈ x, y.length ≤ 30) :
    Calls Tryz.prog 24 #[v] w fun e w' => e = .returned (.string ⟨(Lib.join x [32]).toArray⟩) ∧ Below w.heap.size w w' := by
  have HJ : Hid (∃ ao c, v = .slice ao x.length c ∧ Calls Tryz.prog 45 #[.slice ao x.length c, .string ⟨#[32]⟩] w fun e w' => e = .returned (.string ⟨(Lib.join x [32]).toArray⟩) ∧ Below w.heap.size w w') := Lib.hid (by
    rcases hv.2 with ⟨rfl, h0⟩ | ⟨g, cap, cur, rfl, _, hg, h1, h2, h3, h4⟩
    · refine ⟨none, 0, by rw [h0], ?_⟩
      have e : x = [] := List.eq_nil_of_length_eq_zero h0
      subst e
      exact (Tryz.strings_Join_none none 0 ⟨#[32]⟩ w).mono fun e w' ⟨he, hw⟩ => ⟨he, hw ▸ Below.refl _ _⟩
    · refine ⟨some ⟨g, 0, none⟩, cap, rfl, ?_⟩
      have jl := join_len x hs
      have hm : (x.map (fun s => (⟨s.toArray⟩ : ByteArray))).map (·.data.toList) = x := by rw [List.map_map]; exact List.map_id x
      have hlen : (x.map (fun s => (⟨s.toArray⟩ : ByteArray))).length = x.length := by simp
      have := Tryz.strings_Join g 0 cap (x.map (fun s => (⟨s.toArray⟩ : ByteArray))) ⟨#[32]⟩ w (fun j y hj => by
        rw [Nat.zero_add, cell_blk hg]
        have hj2 : j < x.length := by
          have := (List.getElem?_eq_some_iff.1 hj).1
          simpa using this
        have e : cur[j]? = (cur.toList.take (x.length * 1))[j]? := by rw [List.getElem?_take_of_lt (by omega)]; simp
        rw [e, h4]
        unfold strs
        rw [List.getElem?_map] at hj ⊢
        rw [List.getElem?_eq_getElem hj2] at hj ⊢
        cases hj
        rfl) (Array.getElem?_eq_some_iff.1 hg).1 (by rw [hlen]; omega) (by rw [hlen]; exact h1) (by rw [hm]; show (Lib.join x [32]).length ≤ _; omega)
      rw [hlen, hm] at this
      exact this)
  obtain ⟨ao, c, rfl, HC⟩ := HJ.out
  have HC := Lib.hid HC
  clear HJ hv
  go_enter Tryz.func24, Tryz.ntmps24
  go_wp2_with (first | ((with_reducible refine HC.out.mono ?_); rintro e w' ⟨rfl, q⟩))
  go_returns
  exact ⟨rfl, q⟩
theorem strs_app (a b : List (List UInt8)) : strs (a ++ b) = strs a ++ strs b := by simp [strs]
theorem strs_len (a : List (List UInt8)) : (strs a).length = a.length := by simp [strs]
set_option maxRecDepth 8000 in
set_option maxHeartbeats 2000000 in
theorem Text_any (ao : Option Addr) (n c : Nat) (l : List Lx.Tk) (w : World) (hT : Tx w) (hl : TkAt w ao n c l) (hb : TkB l) (hn : n ≤ 1048576) :
    Calls Tryz.prog 10 #[.slice ao n c] w fun e w' => e = .returned (.string ⟨(joinT l).toArray⟩) ∧ Below w.heap.size w w' := by
  have HTX := Lib.hid hT
  have HL := Lib.hid hl
  have HBD := Lib.hid hb
  have n0 : (0 : Int) ≤ (n : Int) := by omega
  have n1 : (n : Int) ≤ 1048576 := by omega
  obtain ⟨R, hR⟩ : ∃ R, joinT l = R := ⟨_, rfl⟩
  have HR := Lib.hid hR
  rw [hR]
  clear hT hl hb hR
  go_enter Tryz.func10, Tryz.ntmps10
  go_upto_region 3 with fail
  go_loopw [3, 5, 8] (fun s3 s5 ii wr => ∃ j : Nat, j ≤ n ∧ ii = .int .i64 j ∧ Hid (Below w.heap.size w wr) ∧ Hid (wr.ownsRow w.heap.size 9 1 s3 (texts (l.take j)).length (strs (texts (l.take j))))) (fun s3 s5 ii _ => n - (intOf ii).toNat)
  case atStart => exact ⟨0, Nat.zero_le _, rfl, Lib.hid (Below.refl _ _), Lib.hid (World.ownsRow_nil _ _ _ _)⟩
  case round =>
    obtain ⟨j, hj, rfl, HB, HO⟩ := hrel
    have i0 : (0 : Int) ≤ (j : Int) := by omega
    by_cases jlt : j < n
    · have i1 : (j : Int) < n := by omega
      obtain ⟨xb, xp, rfl, hx⟩ := HL.out.here (by omega)
      have hjl : j < l.length := by rw [HL.out.len]; exact jlt
      have cx := hx j hjl
      have hbj := HBD.out _ (List.getElem_mem hjl)
      have HTK := Lib.hid (List.take_succ_eq_append_getElem hjl)
      obtain ⟨T, hT⟩ : ∃ T, l[j]'hjl = T := ⟨_, rfl⟩
      rw [hT] at cx hbj HTK
      obtain ⟨t1, t2, t3⟩ := T
      have c0 := cell_keep cx.1 HB.out
      have c1 := cell_keep cx.2.1 HB.out
      have c2 := cell_keep cx.2.2 HB.out
      obtain ⟨⟨b1, b2⟩, b3, b4, b5⟩ := hbj
      dsimp only at c0 c1 c2 b1 b2 b3 b4 b5
      obtain ⟨r, hr⟩ : ∃ r, rightT (t1, t2, t3) = r := ⟨_, rfl⟩
      have HRT := Lib.hid (fun W (h : Tx W) => right_any t1 t2 t3 W h b1 b2 b3)
      rw [hr] at HRT
      have HTA := Lib.hid (fun W (h : Tx W) (z : rightT (t1, t2, t3) = true) => text_any t1 t2 t3 W h b1 b2 b4 b5 z)
      have HRR := Lib.hid hr
      have HBT := Lib.hid b3
      clear hx hT cx hr b3
      obtain ⟨eb, heb⟩ : ∃ z, wr.heap.size = z := ⟨_, rfl⟩
      obtain ⟨wa, hwa⟩ : ∃ z, wr.alloc (.cells #[.int .u8 t1, .string ⟨t2.toArray⟩, .int .i64 t3] 27) = z := ⟨_, rfl⟩
      have XB : Hid (wa.heap[eb]? = some (.cells #[.int .u8 t1, .string ⟨t2.toArray⟩, .int .i64 t3] 27 (0, 0))) := Lib.hid (by rw [← hwa, ← heb, al_new])
      have KW : Below wr.heap.size wr wa := by rw [← hwa]; exact (Below.refl _ wr).alloc (Nat.le_refl _) _
      have HO2 := Lib.hid (keepB HO.out KW)
      have HB2 := Lib.hid (HB.out.trans (KW.mono HB.out.size))
      have g0 := cell_blk XB.out 0
      have g1 := cell_blk XB.out 1
      have g2 := cell_blk XB.out 2
      clear KW HO
      go_wp2_with fail
      (with_reducible refine (HRT.out _ (HTX.out.keep HB2.out)).mono ?_)
      rintro e w2 ⟨rfl, k⟩
      have HB3 := Lib.hid (HB2.out.trans (k.mono HB2.out.size))
      have HO3 := Lib.hid (keepB HO2.out k)
      have XB2 := blk_keep XB.out k
      clear k g0 g1 g2 HO2 HB2 hwa heb c0 c1 c2
      cases r
      · have HO4 : Hid (w2.ownsRow w.heap.size 9 1 u3 (texts (l.take (j + 1))).length (strs (texts (l.take (j + 1))))) := Lib.hid (by
          have e : texts (l.take (j + 1)) = texts (l.take j) := by
            rw [HTK.out, texts_app]
            unfold texts
            simp [HRR.out]
          rw [e]; exact HO3.out)
        clear HO3 XB2
        go_wp2
        go_roundw
        case rel => exact ⟨j + 1, by omega, by go_num, HB3, HO4⟩
        case measure => simp [intOf]; omega
      · have g0 := cell_blk XB2 0
        have g1 := cell_blk XB2 1
        have g2 := cell_blk XB2 2
        have HTC := Lib.hid (HTA.out w2 (HTX.out.keep HB3.out) HRR.out)
        obtain ⟨X, hX⟩ : ∃ X, textT (t1, t2, t3) = X := ⟨_, rfl⟩
        rw [hX] at HTC
        have HTL : Hid (texts (l.take (j + 1)) = texts (l.take j) ++ [X]) := Lib.hid (by
          rw [HTK.out, texts_app]
          congr 1
          unfold texts
          simp [HRR.out, hX])
        have HLN : Hid ((texts (l.take j)).length + 1 ≤ 4194304) := Lib.hid (by
          have := texts_len (l.take j)
          rw [List.length_take] at this
          omega)
        clear hX XB2
        go_wp2_with fail
        (with_reducible refine HTC.out.mono ?_)
        rintro e w3 ⟨rfl, k⟩
        have HB4 := Lib.hid (HB3.out.trans (k.mono HB3.out.size))
        have HO4 := Lib.hid (keepB HO3.out k)
        clear k g0 g1 g2 HO3 HB3 HTC
        go_wp2_with (at_builtin; go_loud (refine appS rfl _ _ rfl w.heap.size _ u3 (texts (l.take j)).length (strs (texts (l.take j))) rfl ((HO4.out).alloc _) w3.heap.size 1 #[.string ⟨X.toArray⟩] rfl (al_new w3 _) rfl (by simp [Value.oneCell']) HLN.out (by have := HB4.out.size; simp; omega) ?_); intro v6 w6 HO6 HG6; have HO6 := Lib.hid HO6; have HG6 := Lib.hid HG6)
        have HB5 : Hid (Below w.heap.size w w6) := Lib.hid (by
          have K1 := HB4.out.alloc HB4.out.size (.cells #[.string ⟨X.toArray⟩] 9)
          exact K1.grown HG6.out K1.size (fun q e => (HO4.out.lt q e).1))
        have HO7 : Hid (w6.ownsRow w.heap.size 9 1 v6 (texts (l.take (j + 1))).length (strs (texts (l.take (j + 1))))) := Lib.hid (by
          rw [HTL.out, List.length_append, strs_app]; exact HO6.out)
        clear HO6 HG6 HO4 HB4
        go_roundw
        case rel => exact ⟨j + 1, by omega, by go_num, HB5, HO7⟩
        case measure => simp [intOf]; omega
    · obtain rfl : j = n := by omega
      have HO2 : Hid (wr.ownsRow w.heap.size 9 1 u3 (texts l).length (strs (texts l))) := Lib.hid (by
        have := HO.out
        rw [List.take_of_length_le (by rw [HL.out.len]; exact Nat.le_refl _)] at this
        exact this)
      have HJ := Lib.hid (joined_any _ u3 (texts l) wr HO2.out (Nat.le_trans (texts_len l) (by rw [HL.out.len]; exact hn)) (texts_small l HBD.out))
      rw [show Lib.join (texts l) [32] = R from HR.out] at HJ
      clear HO HO2 HR
      go_wp2_with fail
      (with_reducible refine HJ.out.mono ?_)
      rintro e w2 ⟨rfl, k⟩
      have HF := Lib.hid (HB.out.trans (k.mono HB.out.size))
      clear k HJ
      go_wp2
      go_returns
      exact ⟨rfl, HF.out⟩
end Go.Proofs.YthkddellilhhaaaGreatDoor
