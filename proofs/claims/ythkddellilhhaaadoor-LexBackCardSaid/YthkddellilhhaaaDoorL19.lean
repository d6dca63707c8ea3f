/- LexBlanks: the walk. -/
import Derived.Test.YthkddellilhhaaaDoorL17
import Derived.Laws.AppendOwnNone
namespace Go.Proofs.YthkddellilhhaaaDoor
set_option linter.unusedVariables false
set_option linter.unusedSimpArgs false
open Go.ChangeShapes Go.WideShapes Go.ChangeAt Go.RowKit
theorem words_gap (b : UInt8) (hb : Lx.blk b = true) : ∀ (n : Nat) (s : List UInt8) (k : Nat) (acc : List Lx.Tk), Lx.words readOf piOf (List.replicate n b ++ s) k acc = Lx.words readOf piOf s (k + n) acc
  | 0, s, k, acc => by simp
  | n + 1, s, k, acc => by
    rw [List.replicate_succ, List.cons_append, Lx.words_blank readOf piOf hb, words_gap b hb n s (k + 1) acc]
    congr 1; omega
/-- Blanks ahead, between, behind. -/
theorem words_blanks (b : UInt8) (hb : Lx.blk b = true) (n : Nat) (hn : 1 ≤ n) (s t : List UInt8) (l k : List Lx.Tk) (i j : Int) (hs : Lx.words readOf piOf s 0 [] = (l, i)) (ht : Lx.words readOf piOf t 0 [] = (k, j)) :
    Lx.words readOf piOf (List.replicate n b ++ s ++ List.replicate n b ++ t ++ List.replicate n b) 0 [] = if 0 ≤ i then ([], i + n) else if 0 ≤ j then ([], j + 2 * n + s.length) else (l ++ k, -1) := by
  obtain ⟨m, rfl⟩ : ∃ m, n = m + 1 := ⟨n - 1, by omega⟩
  have e : List.replicate (m + 1) b ++ s ++ List.replicate (m + 1) b ++ t ++ List.replicate (m + 1) b = List.replicate (m + 1) b ++ (s ++ b :: (List.replicate m b ++ (t ++ b :: List.replicate m b))) := by
    simp only [List.replicate_succ, List.append_assoc, List.cons_append]
  rw [e, words_gap b hb, Lx.words_app readOf piOf pi_nil _ s (Nat.le_refl _) hb]
  have hi := Lx.words_place readOf piOf pi_nil _ s (Nat.le_refl _)
  have hj := Lx.words_place readOf piOf pi_nil _ t (Nat.le_refl _)
  have hA := Lx.words_shift readOf piOf _ s (Nat.le_refl _) (0 + (m + 1)) []
  rw [hs] at hi hA
  rw [ht] at hj
  have ri : i = -1 ∨ 0 ≤ i := by
    rcases hi with h | ⟨x, h, _⟩
    · exact .inl h
    · injection h with h1 h2; omega
  have rj : j = -1 ∨ 0 ≤ j := by
    rcases hj with h | ⟨x, h, _⟩
    · exact .inl h
    · injection h with h1 h2; omega
  dsimp only at hA
  rcases ri with ri | ri
  · rw [if_pos (by omega)] at hA
    have hB := Lx.words_shift readOf piOf _ t (Nat.le_refl _) (0 + (m + 1) + s.length + 1 + m) ([] ++ l)
    rw [ht] at hB
    dsimp only at hB
    rw [hA, if_pos (show ((-1 : Int) < 0) by decide), if_neg (by omega), words_gap b hb, Lx.words_app readOf piOf pi_nil _ t (Nat.le_refl _) hb]
    rcases rj with rj | rj
    · rw [if_pos (by omega)] at hB
      rw [hB, if_pos (show ((-1 : Int) < 0) by decide), if_neg (by omega)]
      have := words_gap b hb m [] (0 + (m + 1) + s.length + 1 + m + t.length + 1) ([] ++ l ++ k)
      rw [List.append_nil] at this
      rw [this, Lx.words_nil]
      simp
    · rw [if_neg (by omega)] at hB
      rw [hB, if_neg (by dsimp only; omega), if_pos rj]
      congr 1; omega
  · rw [if_neg (by omega)] at hA
    rw [hA, if_neg (by dsimp only; omega), if_pos ri]
    congr 1; omega
theorem rep_list (b : UInt8) (n : Nat) : Lib.repeatL [b] n = List.replicate n b := by
  induction n with
  | zero => rfl
  | succ k ih => rw [List.replicate_succ, ← ih]; rfl
theorem own_tk_at {w : World} {B n c : Nat} {ao : Option Addr} {l : List Lx.Tk} (h : w.ownsRow B 25 3 (.slice ao n c) l.length (tkCells l)) : TkAt w ao l.length c l := by
  obtain ⟨a2, c2, e, ht⟩ := own_tk h
  injection e with e1 e2 e3
  subst e1 e3
  exact ht
theorem wpList_wanted {P : Program} {ops : Array Oper} {Q : Exit → Act → World → Prop} {a : Act} {w : World} {rest : List Oper} {o : Oper} (hw : Region.wanted o (yielded ops a.tmps) = true)
    (h : ∀ K : Act → World → Prop, (∀ a w, wpList P ops Q rest a w → K a w) → o.wp P a w K Q) : wpList P ops Q (o :: rest) a w :=
  wpList_step fun K hK => by rw [if_pos hw]; exact h K hK
theorem appA {ops : Array Oper} {rest : List Oper} {o : Oper} {a : Act} {Q : Exit → Act → World → Prop} {w : World} (hgd : Region.wanted o (yielded ops a.tmps) = true) (s x : Operand)
    (ho : o.op = .call { callee := .builtin .append, args := #[s, x], argTypes := #[22, 22] }) (base : Nat) (v : Value) (l : List Lx.Tk) (hs : a.eval s = v) (hown : w.ownsRow base 25 3 v l.length (tkCells l)) (ao : Option Addr) (m c : Nat) (k : List Lx.Tk) (hx : a.eval x = .slice ao m c) (ht : TkAt w ao m c k) (hn : l.length + m ≤ 1048576) (hbase : base ≤ w.heap.size)
    (h : ∀ v' w', w'.ownsRow base 25 3 v' (l ++ k).length (tkCells (l ++ k)) → w.grownBy w' v.ownBlock → wpList Tryd.prog ops Q rest (a.put o.dst v') w') : wpList Tryd.prog ops Q (o :: rest) a w := by
  obtain ⟨k0, hk, hkz0, hkz1, hkz2⟩ := info_parts' info25
  cases ao with
  | none =>
    obtain ⟨rfl, rfl⟩ := ht.bare rfl
    have hk0 : k = [] := List.eq_nil_of_length_eq_zero ht.len
    subst hk0
    refine wpList_wanted hgd fun K hK => ?_
    have hrun := run_append_owned_none (P := Tryd.prog) (w := w) base 22 o.type 25 k0 3 Tryd.underlying22 hk v l.length (tkCells l) hown
    unfold Oper.wp
    simp [execOp, ho, resolve, invoke, builtin, hs, hx, hrun, Result.andThen]
    exact hK _ _ (h v w (by simpa using hown) ⟨rfl, rfl, rfl, Nat.le_refl _, fun _ _ _ => rfl⟩)
  | some ad =>
    have hnews : ∀ (j : Nat) (u : Value), (tkCells k)[j]? = some u → w.cell? (ad.add j) = some u := fun j u hj => by
      have hj2 : j < k.length * 3 := by
        have := (List.getElem?_eq_some_iff.1 hj).1
        rw [tkCells_len] at this; exact this
      obtain ⟨b, p, e, hx2⟩ := ht.here (by have := ht.len; omega)
      cases e
      have hi : j / 3 < k.length := by omega
      have gt := tkCells_get k (j / 3) hi
      have cx := hx2 (j / 3) hi
      have off : (Addr.add ⟨b, p, none⟩ j) = ⟨b, p + j, none⟩ := by simp only [Addr.add]; split <;> simp_all
      rw [off]
      have h3 : j % 3 = 0 ∨ j % 3 = 1 ∨ j % 3 = 2 := by omega
      rcases h3 with h3 | h3 | h3
      · have ej : j = j / 3 * 3 := by omega
        rw [ej] at hj ⊢
        rw [cx.1, ← hj, gt.1]
      · have ej : j = j / 3 * 3 + 1 := by omega
        rw [ej] at hj ⊢
        rw [show p + (j / 3 * 3 + 1) = p + j / 3 * 3 + 1 by omega, cx.2.1, ← hj, gt.2.1]
      · have ej : j = j / 3 * 3 + 2 := by omega
        rw [ej] at hj ⊢
        rw [show p + (j / 3 * 3 + 2) = p + j / 3 * 3 + 2 by omega, cx.2.2, ← hj, gt.2.2]
    refine wpList_wanted hgd fun K hK => ?_
    obtain ⟨v', w', hr, h2, h3, h4, h5⟩ := run_append_own_at (P := Tryd.prog) w base 22 o.type 25 k0 (.agg #[.int .u8 0, .string ⟨#[]⟩, .int .i64 0]) 3 32 Tryd.underlying22 hk hkz0 hkz1 hkz2 rfl (by decide) v l.length (tkCells l) hown ad m c (tkCells k) (by rw [tkCells_len, ht.len]) hnews (tkCells_one k) (by unfold maxLen; omega) (by omega) hbase
    unfold Oper.wp execOp
    simp only [ho, resolve, invoke, builtin, Sem.run_bind, Sem.run_pure, Result.andThen_ok, List.map_toArray, List.map_cons, List.map_nil, hs, hx, hr]
    exact hK _ _ (h v' w' (by rw [List.length_append, ht.len, tkCells_app]; exact h2) h3)
set_option maxRecDepth 8000 in
set_option maxHeartbeats 4000000 in
theorem lexBlanks_walk (s t : ByteArray) (h8 : Int) (tab : Bool) (w : World) (hT : Tx w) (hs : s.size ≤ maxLen) (ht : t.size ≤ maxLen) (h80 : 0 ≤ h8) (h81 : h8 ≤ 255) : Calls Tryd.prog 4 #[.string s, .string t, .int .u8 h8, .bool tab] w fun e w' => e = .returned (.bool true) ∧ Below w.heap.size w w' := by
  have HTX := Lib.hid hT
  unfold maxLen at hs ht
  have HB : Hid (Below w.heap.size w w) := Lib.hid (Below.refl _ _)
  clear hT
  by_cases c1 : s.size ≤ 200
  · have c1' : (s.size : Int) ≤ 200 := by omega
    by_cases c2 : t.size ≤ 200
    · have c2' : (t.size : Int) ≤ 200 := by omega
      obtain ⟨c, hc⟩ : ∃ c : Nat, (1 : Int) + h8 % 9 = (c : Int) := ⟨(1 + h8 % 9).toNat, by omega⟩
      have hc1 : 1 ≤ c := by omega
      have hc2 : c ≤ 9 := by omega
      have hr : (0 : Int) ≤ h8 % 9 ∧ h8 % 9 ≤ 8 := by omega
      have h4 := hr.1
      have h5 := hr.2
      obtain ⟨⟨l, i⟩, hR1⟩ : ∃ R, Lx.words readOf piOf s.data.toList 0 [] = R := ⟨_, rfl⟩
      obtain ⟨⟨k, j⟩, hR2⟩ : ∃ R, Lx.words readOf piOf t.data.toList 0 [] = R := ⟨_, rfl⟩
      have HW1 := Lib.hid (fun W (h : Tx W) => words_row s W h (by omega) l i hR1)
      have HW2 := Lib.hid (fun W (h : Tx W) => words_row t W h (by omega) k j hR2)
      have hp1 := Lx.words_place readOf piOf pi_nil _ s.data.toList (Nat.le_refl _)
      have hp2 := Lx.words_place readOf piOf pi_nil _ t.data.toList (Nat.le_refl _)
      have hl1 := words_right _ s.data.toList (Nat.le_refl _)
      have hl2 := words_right _ t.data.toList (Nat.le_refl _)
      rw [hR1] at hp1 hl1
      rw [hR2] at hp2 hl2
      rw [← Lib.size_eq] at hp1 hl1 hp2 hl2
      have hi : i = -1 ∨ (0 ≤ i ∧ i ≤ 200) := by
        rcases hp1 with h | ⟨x, h, hx, _⟩
        · exact .inl h
        · injection h with h1 h2; omega
      have hj : j = -1 ∨ (0 ≤ j ∧ j ≤ 200) := by
        rcases hp2 with h | ⟨x, h, hx, _⟩
        · exact .inl h
        · injection h with h1 h2; omega
      obtain ⟨b, hb⟩ : ∃ b : UInt8, b = if tab = true then 9 else 32 := ⟨_, rfl⟩
      have hbk : Lx.blk b = true := by rw [hb]; cases tab <;> decide
      obtain ⟨G, hG⟩ : ∃ G : ByteArray, (⟨(Lib.repeatL [b] c).toArray⟩ : ByteArray) = G := ⟨_, rfl⟩
      have hGl : G.data.toList = List.replicate c b := by rw [← hG, rep_list]
      have hGs : G.size = c := by rw [Lib.size_eq, hGl, List.length_replicate]
      have HRP := Lib.hid (fun W => Tryd.strings_Repeat ⟨#[b]⟩ c W (by omega) (by show 1 * c ≤ _; omega))
      rw [show (⟨#[b]⟩ : ByteArray).data.toList = [b] from rfl, hG] at HRP
      have HC : Hid (Lx.words readOf piOf (G ++ s ++ G ++ t ++ G).data.toList 0 [] = if 0 ≤ i then ([], i + c) else if 0 ≤ j then ([], j + 2 * c + s.size) else (l ++ k, -1)) := Lib.hid (by
        have e : (G ++ s ++ G ++ t ++ G).data.toList = List.replicate c b ++ s.data.toList ++ List.replicate c b ++ t.data.toList ++ List.replicate c b := by
          simp only [ByteArray.data_append, Array.toList_append, hGl]
        rw [e, words_blanks b hbk c hc1 s.data.toList t.data.toList l k i j hR1 hR2, ← Lib.size_eq])
      have HSZ : Hid ((G ++ s ++ G ++ t ++ G).size ≤ 1048576) := Lib.hid (by simp only [ByteArray.size_append]; omega)
      have HLN : Hid (l.length + k.length ≤ 1000) := Lib.hid (by have := hl1.2; have := hl2.2; dsimp only at *; omega)
      have HBB := Lib.hid hb
      have g0 : G.size ≤ 9 := by omega
      have hgi : (G.size : Int) = (c : Int) := by omega
      have c3 : (1 : Int) ≤ (c : Int) := by omega
      have c4 : (c : Int) ≤ 9 := by omega
      have s0 : (0 : Int) ≤ (s.size : Int) := by omega
      clear hp1 hp2 hl1 hl2 hR1 hR2 hG hGl hbk hc1 hc2 hr hs ht hGs hb
      go_enter Tryd.func4, Tryd.ntmps4
      go_upto_if 26 with fail
      go_cut [9] from 26 to 26 (fun s9 wx => s9 = .string ⟨#[b]⟩ ∧ wx = w)
      case first =>
        cases tab
        · obtain rfl : b = 32 := HBB.out
          go_wp2
          go_meet
          case rel => exact ⟨rfl, rfl⟩
        · obtain rfl : b = 9 := HBB.out
          go_wp2
          go_meet
          case rel => exact ⟨rfl, rfl⟩
      case rest =>
        obtain ⟨rfl, rfl⟩ := hcut
        go_wp2_with fail
        (with_reducible refine (HRP.out _).mono ?_)
        rintro e w1 ⟨rfl, q⟩
        have HB := Lib.hid (HB.out.trans (q.mono HB.out.size))
        clear q HRP
        have HI := Lib.hid hi
        have HJ := Lib.hid hj
        clear hi hj
        go_wp2_with fail
        (with_reducible refine (HW1.out _ (HTX.out.keep HB.out)).mono ?_)
        rintro e w2 ⟨oa, ca, rfl, HA, q⟩
        have HB := Lib.hid (HB.out.trans (q.mono HB.out.size))
        clear q
        go_wp2_with fail
        (with_reducible refine (HW2.out _ (HTX.out.keep HB.out)).mono ?_)
        rintro e w3 ⟨ob, cb, rfl, HBL, q⟩
        have HA := Lib.hid (HA.out.keep q)
        have HB := Lib.hid (HB.out.trans (q.mono HB.out.size))
        clear q
        clear HW1 HW2
        rcases HI.out with hi | ⟨hi0, hi1⟩
        · subst hi
          rcases HJ.out with hj | ⟨hj0, hj1⟩
          · subst hj
            have hR3 : Lx.words readOf piOf (G ++ s ++ G ++ t ++ G).data.toList 0 [] = (l ++ k, -1) := by rw [HC.out, if_neg (by decide), if_neg (by decide)]
            have HW3 := Lib.hid (fun W (h : Tx W) => words_row (G ++ s ++ G ++ t ++ G) W h HSZ.out (l ++ k) (-1) hR3)
            clear hR3 HC HI HJ
            go_wp2_with fail
            (with_reducible refine (HW3.out _ (HTX.out.keep HB.out)).mono ?_)
            rintro e w4 ⟨oc, cc, rfl, HCL, q⟩
            have HA := Lib.hid (HA.out.keep q)
            have HBL := Lib.hid (HBL.out.keep q)
            have HB := Lib.hid (HB.out.trans (q.mono HB.out.size))
            clear q
            obtain ⟨eb, heb⟩ : ∃ z, w4.heap.size = z := ⟨_, rfl⟩
            obtain ⟨w5, hw5⟩ : ∃ z, w4.alloc (.cells #[] 25) = z := ⟨_, rfl⟩
            have q : Below w4.heap.size w4 w5 := by rw [← hw5]; exact (Below.refl _ w4).alloc (Nat.le_refl _) _
            have HEO : Hid (w5.ownsRow w4.heap.size 25 3 (.slice (some ⟨eb, 0, none⟩) 0 0) ([] : List Lx.Tk).length (tkCells [])) := Lib.hid ⟨rfl, .inr ⟨eb, 0, #[], rfl, by omega, by rw [← hw5, ← heb, al_new], Nat.le_refl _, Nat.zero_le _, rfl, rfl⟩⟩
            have HA5 := Lib.hid (HA.out.keep q)
            have HK5 := Lib.hid q
            clear q HA HW3
            go_wp2_with (at_builtin; first
              | ((refine appA (by kernel_rfl) _ _ rfl w4.heap.size (.slice (some ⟨eb, 0, none⟩) 0 0) [] rfl HEO.out oa l.length ca l rfl HA5.out (by have := HLN.out; simp; omega) HK5.out.size ?_); intro v6 w6 HO6 HG6; have HO6 := Lib.hid HO6; have HK6 := Lib.hid (HK5.out.grown HG6 HK5.out.size (fun q e => (HEO.out.lt q e).1)); have HB6 := Lib.hid (HBL.out.keep HK6.out); clear HG6 heb hw5 HEO HA5 HK5)
              | (go_loud (refine appA (by kernel_rfl) _ _ rfl w4.heap.size v6 ([] ++ l) rfl HO6.out ob k.length cb k rfl HB6.out (by have := HLN.out; simp; omega) HK6.out.size ?_); intro v7 w7 HO7 HG7; have HK7 := Lib.hid (HK6.out.grown HG7 HK6.out.size (fun q e => (HO6.out.lt q e).1)); obtain ⟨ov, cv, rfl, hcv⟩ := row_tk HO7; have HO7 := Lib.hid HO7; clear HG7 HK6 HB6 hcv))
            have HT7 := Lib.hid (own_tk_at HO7.out)
            have HC7 := Lib.hid (HCL.out.keep HK7.out)
            have HB := Lib.hid (HB.out.trans (HK7.out.mono HB.out.size))
            rw [List.nil_append, List.length_append] at HT7
            rw [List.length_append] at HC7
            have HSM := Lib.hid (same_any oc ov (l.length + k.length) cc cv (l ++ k) w7 HC7.out HT7.out)
            clear HT7 HC7 HO7 HK7 HCL HBL HO6
            (with_reducible refine HSM.out.mono ?_)
            rintro e w8 ⟨rfl, q⟩
            have HB := Lib.hid (HB.out.trans (q.mono HB.out.size))
            clear q HSM
            have HQ := Lib.hid (awake_any w8 (HTX.out.keep HB.out))
            go_wp2_with fail
            (with_reducible refine HQ.out.mono ?_)
            rintro e wz ⟨rfl, q9⟩
            have HF9 := Lib.hid (HB.out.trans (q9.mono HB.out.size))
            clear q9
            go_wp2
            go_returns
            exact ⟨rfl, HF9.out⟩
          · have hR3 : Lx.words readOf piOf (G ++ s ++ G ++ t ++ G).data.toList 0 [] = ([], j + 2 * c + s.size) := by rw [HC.out, if_neg (by decide), if_pos hj0]
            have HW3 := Lib.hid (fun W (h : Tx W) => words_row (G ++ s ++ G ++ t ++ G) W h HSZ.out [] (j + 2 * c + s.size) hR3)
            clear hR3 HC HI HJ
            go_wp2_with fail
            (with_reducible refine (HW3.out _ (HTX.out.keep HB.out)).mono ?_)
            rintro e w4 ⟨oc, cc, rfl, HCL, q⟩
            have HB := Lib.hid (HB.out.trans (q.mono HB.out.size))
            clear q
            have HQ := Lib.hid (awake_any w4 (HTX.out.keep HB.out))
            go_wp2_with fail
            (with_reducible refine HQ.out.mono ?_)
            rintro e wz ⟨rfl, q9⟩
            have HF9 := Lib.hid (HB.out.trans (q9.mono HB.out.size))
            clear q9
            go_wp2
            go_returns
            exact ⟨rfl, HF9.out⟩
        · have hR3 : Lx.words readOf piOf (G ++ s ++ G ++ t ++ G).data.toList 0 [] = ([], i + c) := by rw [HC.out, if_pos hi0]
          have HW3 := Lib.hid (fun W (h : Tx W) => words_row (G ++ s ++ G ++ t ++ G) W h HSZ.out [] (i + c) hR3)
          clear hR3 HC HI HJ
          go_wp2_with fail
          (with_reducible refine (HW3.out _ (HTX.out.keep HB.out)).mono ?_)
          rintro e w4 ⟨oc, cc, rfl, HCL, q⟩
          have HB := Lib.hid (HB.out.trans (q.mono HB.out.size))
          clear q
          have HQ := Lib.hid (awake_any w4 (HTX.out.keep HB.out))
          go_wp2_with fail
          (with_reducible refine HQ.out.mono ?_)
          rintro e wz ⟨rfl, q9⟩
          have HF9 := Lib.hid (HB.out.trans (q9.mono HB.out.size))
          clear q9
          go_wp2
          go_returns
          exact ⟨rfl, HF9.out⟩
    · have c2' : (200 : Int) < (t.size : Int) := by omega
      go_enter Tryd.func4, Tryd.ntmps4
      have HQ := Lib.hid (awake_any w (HTX.out.keep HB.out))
      go_wp2_with fail
      (with_reducible refine HQ.out.mono ?_)
      rintro e wz ⟨rfl, q9⟩
      have HF9 := Lib.hid (HB.out.trans (q9.mono HB.out.size))
      clear q9
      go_wp2
      go_returns
      exact ⟨rfl, HF9.out⟩
  · have c1' : (200 : Int) < (s.size : Int) := by omega
    go_enter Tryd.func4, Tryd.ntmps4
    have HQ := Lib.hid (awake_any w (HTX.out.keep HB.out))
    go_wp2_with fail
    (with_reducible refine HQ.out.mono ?_)
    rintro e wz ⟨rfl, q9⟩
    have HF9 := Lib.hid (HB.out.trans (q9.mono HB.out.size))
    clear q9
    go_wp2
    go_returns
    exact ⟨rfl, HF9.out⟩
end Go.Proofs.YthkddellilhhaaaDoor
