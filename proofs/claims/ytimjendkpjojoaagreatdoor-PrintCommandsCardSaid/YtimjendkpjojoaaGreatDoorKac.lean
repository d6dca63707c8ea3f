/- L3, L4, L5 in one. -/
import Derived.Test.YtimjendkpjojoaaGreatDoorKk
import Derived.Test.YtimjendkpjojoaaGreatDoorKx
import Derived.Test.YtimjendkpjojoaaGreatDoorKab
import Derived.Test.YtimjendkpjojoaaGreatDoorKy
namespace Go.Proofs.YtimjendkpjojoaaGreatDoor
set_option linter.unusedVariables false
set_option linter.unusedSimpArgs false
open Go.ChangeShapes Go.WideShapes Go.ChangeAt Go.RowKit
/-- The tables that lex reads. -/
structure Tx (w : World) : Prop where
  tabs : Tabs w
  syn : ∃ tp p, w.var? Tryz.prog "strconv.ErrSyntax" = some #[.iface tp p]
  rng : ∃ tp p, w.var? Tryz.prog "strconv.ErrRange" = some #[.iface tp p]
theorem Tx.keep {w w' : World} (h : Tx w) (b : Below w.heap.size w w') : Tx w' := by
  obtain ⟨t1, p1, h1⟩ := h.syn
  obtain ⟨t2, p2, h2⟩ := h.rng
  exact ⟨h.tabs.keep b, ⟨t1, p1, var_keep h1 b⟩, ⟨t2, p2, var_keep h2 b⟩⟩
/-- A number that a text spells. -/
def piOf (l : List UInt8) : Option Int := match Lib.parseIntB 64 l with
  | .ok v => some v
  | _ => none
theorem body_trim (l : List UInt8) : Lx.body l = Lib.trimPrefix l [45] := by
  unfold Lx.body Lib.trimPrefix Lib.hasPrefix
  cases l with
  | nil => rfl
  | cons c r =>
    by_cases h : c = 45
    · subst h; simp
    · have : ¬ (45 : UInt8) = c := fun e => h e.symm
      simp [h, this]
theorem pi_nil : piOf [] = none := rfl
theorem pi_minus : piOf [45] = none := by unfold piOf; rfl
theorem bytes_below (w : World) (e : TypeId) (s : ByteArray) : Below w.heap.size w (Lib.bytesWorld w e s) := by
  exact ⟨rfl, rfl, rfl, by rw [Lib.bytesWorld_size]; omega, fun j hj => Lib.bytesWorld_at_old w e s j hj⟩
/-- ParseInt: a number and no error, or an error. -/
theorem parse_ok (s : ByteArray) (w : World) (hs : s.size ≤ 281474976710656) {v : Int} (h : piOf s.data.toList = some v) : Calls Tryz.prog 68 #[.string s, .int .i64 10, .int .i64 64] w fun e w' => e = .returned (.tuple #[.int .i64 v, .nilIface]) ∧ Below w.heap.size w w' := by
  unfold piOf at h
  split at h
  · rename_i u hu
    injection h with h
    subst h
    refine (Tryz.strconv_ParseInt_10_at64_ok s (by omega) u hu w).mono ?_
    rintro e w' ⟨rfl, rfl | ⟨t, rfl⟩⟩
    · exact ⟨rfl, Below.refl _ _⟩
    · exact ⟨rfl, bytes_below _ _ _⟩
  · cases h
theorem parse_no (s : ByteArray) (w : World) (hs : s.size ≤ 281474976710656) (hT : Tx w) (h : piOf s.data.toList = none) : Calls Tryz.prog 68 #[.string s, .int .i64 10, .int .i64 64] w fun e w' => ∃ (x : Int) (N : Nat), e = .returned (.tuple #[.int .i64 x, .iface 139 (.pointer (some ⟨N, 0, none⟩))]) ∧ Below w.heap.size w w' := by
  unfold piOf at h
  obtain ⟨t1, p1, h1⟩ := hT.syn
  obtain ⟨t2, p2, h2⟩ := hT.rng
  cases hp : Lib.parseIntB 64 s.data.toList with
  | ok v => rw [hp] at h; cases h
  | «syntax» =>
    refine (Tryz.strconv_ParseInt_10_at64_syntax_var s hs hp t1 p1 w h1).mono ?_
    rintro e w' ⟨N, rfl, _, _, b⟩
    exact ⟨_, N, rfl, b⟩
  | range =>
    refine (Tryz.strconv_ParseInt_10_at64_range_var s hs hp t2 p2 w h2).mono ?_
    rintro e w' ⟨N, rfl, _, _, b⟩
    exact ⟨_, N, rfl, b⟩
/-- A token's value. -/
def tkv (t : Lx.Tk) : Value := .agg #[.int .u8 t.1, .string ⟨t.2.1.toArray⟩, .int .i64 t.2.2]
def fstV : Option (Lx.Tk × Nat) → Value
  | some (t, n) => .tuple #[tkv t, .int .i64 (n : Int)]
  | none => .tuple #[.agg #[.int .u8 0, .string ⟨#[]⟩, .int .i64 0], .int .i64 0]
def numT : Option (Int × Nat) → Option (Lx.Tk × Nat)
  | some (v, n) => some ((2, [], v), n)
  | none => none
theorem blk_keep {w w' : World} {b : Nat} {o : Obj} (h : w.heap[b]? = some o) (q : Below w.heap.size w w') : w'.heap[b]? = some o := (q.block b (Array.getElem?_eq_some_iff.1 h).1).trans h
/-- What an empty token's box becomes. -/
theorem box_end {w w1 w2 : World} {b : Nat} (K : Below w.heap.size w w1) (hb : w.heap.size ≤ b) (x0 x1 x2 : Value) (q : Below w1.heap.size w1 w2) : Below w.heap.size w (((w2.setCell ⟨b, 0, none⟩ x0).setCell ⟨b, 1, none⟩ x1).setCell ⟨b, 2, none⟩ x2) :=
  ((((K.trans (q.mono K.size)).setCell (p := ⟨b, 0, none⟩) hb x0).setCell (p := ⟨b, 1, none⟩) hb x1).setCell (p := ⟨b, 2, none⟩) hb x2)
theorem box_set {w : World} {b : Nat} {a0 a1 a2 : Value} (h : w.heap[b]? = some (.cells #[a0, a1, a2] 60 (0, 0))) (x0 x1 x2 : Value) : (((w.setCell ⟨b, 0, none⟩ x0).setCell ⟨b, 1, none⟩ x1).setCell ⟨b, 2, none⟩ x2).heap[b]? = some (.cells #[x0, x1, x2] 60 (0, 0)) := by
  have e0 := set_block h 0 x0
  have e1 := set_block e0 1 x1
  exact set_block e1 2 x2
set_option maxHeartbeats 2000000 in
theorem number_any (s : ByteArray) (w : World) (hT : Tx w) (h0 : 0 < s.size) (hs : s.size ≤ 1048576) :
    Calls Tryz.prog 48 #[.string s] w fun e w' => e = .returned (fstV (numT (Lx.num piOf s.data.toList))) ∧ Below w.heap.size w w' := by
  obtain ⟨d, hd⟩ : ∃ d : ByteArray, (⟨(Lib.trimPrefix s.data.toList [45]).toArray⟩ : ByteArray) = d := ⟨_, rfl⟩
  have hdl : d.data.toList = Lx.body s.data.toList := by rw [← hd, body_trim]
  have hbl := Lx.body_len s.data.toList
  rw [← hdl, ← Lib.size_eq, ← Lib.size_eq] at hbl
  obtain ⟨cnt, hc⟩ : ∃ c, Lx.run Lx.dgt d.data.toList = c := ⟨_, rfl⟩
  have hcl := Lx.run_le Lx.dgt d.data.toList
  rw [hc, ← Lib.size_eq] at hcl
  have HT := Lib.hid (fun W => Tryz.strings_TrimPrefix s ⟨#[45]⟩ W)
  rw [show (⟨#[45]⟩ : ByteArray).data.toList = [45] from rfl, hd] at HT
  have HR := Lib.hid (fun W => runD d W (by unfold maxLen; omega))
  rw [hc] at HR
  obtain ⟨n, hn⟩ : ∃ n : Nat, s.size - d.size + cnt = n := ⟨_, rfl⟩
  have hns : n ≤ s.size := by omega
  have HE : Hid ((s.extract 0 n).data.toList = s.data.toList.take n) := Lib.hid (by rw [Lib.extract_data]; simp)
  have HES : Hid ((s.extract 0 n).size ≤ 281474976710656) := Lib.hid (by rw [Lib.size_eq, HE.out, List.length_take]; rw [← Lib.size_eq]; omega)
  have HNUM : Hid ((piOf (s.data.toList.take n) = none → Lx.num piOf s.data.toList = none) ∧ ∀ v, piOf (s.data.toList.take n) = some v → (((d.data.toList[0]? = some 48 ∧ 1 < n) ∨ (∃ c, s.data.toList[n]? = some c ∧ Lx.ltr c = true)) → Lx.num piOf s.data.toList = none) ∧ (¬ ((d.data.toList[0]? = some 48 ∧ 1 < n) ∨ (∃ c, s.data.toList[n]? = some c ∧ Lx.ltr c = true)) → Lx.num piOf s.data.toList = some (v, n))) := Lib.hid (by
    unfold Lx.num
    dsimp only
    rw [← hdl, hc, ← Lib.size_eq, ← Lib.size_eq, hn]
    refine ⟨fun h => by rw [h], fun v h => ?_⟩
    rw [h]
    exact ⟨fun z => by dsimp only; rw [if_pos z], fun z => by dsimp only; rw [if_neg z]⟩)
  have hsum : (s.size : Int) - (d.size : Int) + (cnt : Int) = (n : Int) := by omega
  have n0 : (0 : Int) ≤ (n : Int) := by omega
  have n1 : (n : Int) ≤ (s.size : Int) := by omega
  have d0 : (0 : Int) ≤ (d.size : Int) := by omega
  have d1 : (d.size : Int) ≤ (s.size : Int) := by omega
  have c0 : (0 : Int) ≤ (cnt : Int) := by omega
  have c1 : (cnt : Int) ≤ (d.size : Int) := by omega
  have s1 : (s.size : Int) ≤ 1048576 := by omega
  have HDS : Hid (d.size = 0 → s.data.toList.take n = [] ∨ s.data.toList.take n = [45]) := Lib.hid (fun z => by
    have hcn : cnt = 0 := by omega
    have e : Lx.body s.data.toList = [] := by rw [← hdl]; exact List.eq_nil_of_length_eq_zero (by rw [← Lib.size_eq]; exact z)
    cases hq : s.data.toList with
    | nil => left; simp
    | cons c r =>
      rw [hq] at e
      unfold Lx.body at e
      dsimp only at e
      split at e
      · rename_i hc45
        subst e hc45
        by_cases z2 : n = 0
        · left; rw [z2]; rfl
        · right; rw [List.take_of_length_le (by simp; omega)]
      · cases e)
  have HTX := Lib.hid hT
  have HDL := Lib.hid hdl
  obtain ⟨b, hb⟩ : ∃ z, w.heap.size = z := ⟨_, rfl⟩
  obtain ⟨w1, hw1⟩ : ∃ z, w.alloc (.cells #[.int .u8 0, .string ⟨#[]⟩, .int .i64 0] 60) = z := ⟨_, rfl⟩
  have KA : Below w.heap.size w w1 := by rw [← hw1]; exact (Below.refl _ w).alloc (Nat.le_refl _) _
  have XB : Hid (w1.heap[b]? = some (.cells #[.int .u8 0, .string ⟨#[]⟩, .int .i64 0] 60 (0, 0))) := Lib.hid (by rw [← hw1, ← hb, al_new])
  have HKA := Lib.hid KA
  have HBL : Hid (w.heap.size ≤ b) := Lib.hid (by omega)
  obtain ⟨R, hR⟩ : ∃ R, Lx.num piOf s.data.toList = R := ⟨_, rfl⟩
  rw [hR] at HNUM ⊢
  clear hR hd hdl hc hT KA hcl hbl hn
  have HNA := HNUM.out.1
  have HNB := HNUM.out.2
  have HNB := Lib.hid HNB
  cases hpi : piOf (s.data.toList.take n) with
  | none =>
    obtain rfl : R = none := HNA hpi
    have HP := Lib.hid (parse_no (s.extract 0 n) w1 HES.out (HTX.out.keep HKA.out) (by rw [HE.out]; exact hpi))
    clear HNA HNB HNUM hpi
    go_enter Tryz.func48, Tryz.ntmps48
    go_wp2_with (first | ((with_reducible refine (HT.out _).mono ?_); rintro e w' ⟨rfl, rfl⟩) | ((with_reducible refine (HR.out _).mono ?_); rintro e w' ⟨rfl, rfl⟩) | ((with_reducible refine HP.out.mono ?_); rintro e w2 ⟨x, N, rfl, q⟩; have XB2 := blk_keep XB.out q; have r0 := cell_blk XB2 0; have r1 := cell_blk XB2 1; have r2 := cell_blk XB2 2; have f0 := blk_free XB2 0; have f1 := blk_free XB2 1; have f2 := blk_free XB2 2))
    have XE := box_set XB2 (.int .u8 0) (.string ⟨#[]⟩) (.int .i64 0)
    have KE := box_end HKA.out HBL.out (.int .u8 0) (.string ⟨#[]⟩) (.int .i64 0) q
    obtain ⟨wf, hwf⟩ : ∃ z, (((w2.setCell ⟨b, 0, none⟩ (.int .u8 0)).setCell ⟨b, 1, none⟩ (.string ⟨#[]⟩)).setCell ⟨b, 2, none⟩ (.int .i64 0)) = z := ⟨_, rfl⟩
    rw [hwf] at XE KE ⊢
    clear r0 r1 r2 f0 f1 f2 hwf
    have r0 := cell_blk XE 0
    have r1 := cell_blk XE 1
    have r2 := cell_blk XE 2
    exact bodyPost_ret (v := .tuple #[.agg #[.int .u8 0, .string ⟨#[]⟩, .int .i64 0], .int .i64 0]) (by simp [results, Tryz.results48, go_sem, r0, r1, r2]) rfl ⟨rfl, KE⟩
  | some v =>
    have HNC := HNB.out v hpi
    have HD1 : 0 < d.size := by
      rcases Nat.eq_zero_or_pos d.size with z | z
      · exfalso
        rcases HDS.out z with e | e
        · rw [e] at hpi; exact absurd (pi_nil.symm.trans hpi) (by simp)
        · rw [e] at hpi; exact absurd (pi_minus.symm.trans hpi) (by simp)
      · exact z
    have hd1 : (0 : Int) < (d.size : Int) := by omega
    have HP := Lib.hid (parse_ok (s.extract 0 n) w1 HES.out (by rw [HE.out]; exact hpi))
    have HN1 := Lib.hid HNC.1
    have HN2 := Lib.hid HNC.2
    have HD0 : Hid (d.data.toList[0]? = some (d[0]'HD1)) := Lib.hid (by rw [List.getElem?_eq_getElem (by rw [← Lib.size_eq]; exact HD1), get_list])
    obtain ⟨a, ha⟩ : ∃ a, d[0]'HD1 = a := ⟨_, rfl⟩
    rw [ha] at HD0
    obtain ⟨x, hx⟩ : ∃ x : Int, (a.toNat : Int) = x := ⟨_, rfl⟩
    have HAX : Hid (x = 48 ↔ a = 48) := Lib.hid (by
      rw [← hx]
      constructor
      · intro h; exact UInt8.toNat_inj.1 (by have : (48 : UInt8).toNat = 48 := rfl; omega)
      · intro h; rw [h]; rfl)
    have hgd : ((d[0]'HD1).toNat : Int) = x := by rw [ha]; exact hx
    clear ha hx HNA HNB HNUM hpi HNC
    by_cases z1 : x = 48 ∧ 1 < n
    · obtain ⟨z1, z2⟩ := z1
      obtain rfl : R = none := HN1.out (.inl ⟨by rw [HD0.out, HAX.out.1 z1], z2⟩)
      have z3 : (x == 48) = true := by simp [z1]
      have z4 : (1 : Int) < (n : Int) := by omega
      clear z1
      go_enter Tryz.func48, Tryz.ntmps48
      go_wp2_with (first | ((with_reducible refine (HT.out _).mono ?_); rintro e w' ⟨rfl, rfl⟩) | ((with_reducible refine (HR.out _).mono ?_); rintro e w' ⟨rfl, rfl⟩) | ((with_reducible refine HP.out.mono ?_); rintro e w2 ⟨rfl, q⟩; have XB2 := blk_keep XB.out q; have r0 := cell_blk XB2 0; have r1 := cell_blk XB2 1; have r2 := cell_blk XB2 2; have f0 := blk_free XB2 0; have f1 := blk_free XB2 1; have f2 := blk_free XB2 2))
      have XE := box_set XB2 (.int .u8 0) (.string ⟨#[]⟩) (.int .i64 0)
      have KE := box_end HKA.out HBL.out (.int .u8 0) (.string ⟨#[]⟩) (.int .i64 0) q
      obtain ⟨wf, hwf⟩ : ∃ z, (((w2.setCell ⟨b, 0, none⟩ (.int .u8 0)).setCell ⟨b, 1, none⟩ (.string ⟨#[]⟩)).setCell ⟨b, 2, none⟩ (.int .i64 0)) = z := ⟨_, rfl⟩
      rw [hwf] at XE KE ⊢
      clear r0 r1 r2 f0 f1 f2 hwf
      have r0 := cell_blk XE 0
      have r1 := cell_blk XE 1
      have r2 := cell_blk XE 2
      exact bodyPost_ret (v := .tuple #[.agg #[.int .u8 0, .string ⟨#[]⟩, .int .i64 0], .int .i64 0]) (by simp [results, Tryz.results48, go_sem, r0, r1, r2]) rfl ⟨rfl, KE⟩
    · by_cases z2 : x = 48
      · have z3 : (x == 48) = true := by simp [z2]
        have z4 : decide ((1 : Int) < (n : Int)) = false := decide_eq_false (by omega)
        have z5 : ¬ 1 < n := by omega
        clear z2
        by_cases y1 : n < s.size
        · have y2 : (n : Int) < (s.size : Int) := by omega
          have HC : Hid (s.data.toList[n]? = some (s[n]'y1)) := Lib.hid (by rw [List.getElem?_eq_getElem (by rw [← Lib.size_eq]; exact y1), get_list])
          have HL := Lib.hid (fun W => letter_any (s[n]'y1) W)
          obtain ⟨r, hr⟩ : ∃ r, Lx.ltr (s[n]'y1) = r := ⟨_, rfl⟩
          rw [hr] at HL
          have HLR := Lib.hid hr
          clear hr
          obtain ⟨y, hy⟩ : ∃ y : Int, ((s[n]'y1).toNat : Int) = y := ⟨_, rfl⟩
          rw [hy] at HL
          cases r
          · obtain rfl : R = some (v, n) := HN2.out (by
              rintro (⟨e1, e2⟩ | ⟨c, e1, e2⟩)
              · exact z5 e2
              · rw [HC.out] at e1; cases e1; rw [HLR.out] at e2; cases e2)
            go_enter Tryz.func48, Tryz.ntmps48
            go_wp2_with (first | ((with_reducible refine (HT.out _).mono ?_); rintro e w' ⟨rfl, rfl⟩) | ((with_reducible refine (HR.out _).mono ?_); rintro e w' ⟨rfl, rfl⟩) | ((with_reducible refine HP.out.mono ?_); rintro e w2 ⟨rfl, q⟩; have XB2 := blk_keep XB.out q; have r0 := cell_blk XB2 0; have r1 := cell_blk XB2 1; have r2 := cell_blk XB2 2; have f0 := blk_free XB2 0; have f1 := blk_free XB2 1; have f2 := blk_free XB2 2) | ((with_reducible refine (HL.out _).mono ?_); rintro e w3 ⟨rfl, rfl⟩))
            have XE := box_set XB2 (.int .u8 2) (.string ⟨#[]⟩) (.int .i64 v)
            have KE := box_end HKA.out HBL.out (.int .u8 2) (.string ⟨#[]⟩) (.int .i64 v) q
            obtain ⟨wf, hwf⟩ : ∃ z, (((w2.setCell ⟨b, 0, none⟩ (.int .u8 2)).setCell ⟨b, 1, none⟩ (.string ⟨#[]⟩)).setCell ⟨b, 2, none⟩ (.int .i64 v)) = z := ⟨_, rfl⟩
            rw [hwf] at XE KE ⊢
            clear r0 r1 r2 f0 f1 f2 hwf
            have r0 := cell_blk XE 0
            have r1 := cell_blk XE 1
            have r2 := cell_blk XE 2
            exact bodyPost_ret (v := .tuple #[.agg #[.int .u8 2, .string ⟨#[]⟩, .int .i64 v], .int .i64 (n : Int)]) (by simp [results, Tryz.results48, go_sem, r0, r1, r2]) rfl ⟨rfl, KE⟩
          · obtain rfl : R = none := HN1.out (.inr ⟨_, HC.out, HLR.out⟩)
            go_enter Tryz.func48, Tryz.ntmps48
            go_wp2_with (first | ((with_reducible refine (HT.out _).mono ?_); rintro e w' ⟨rfl, rfl⟩) | ((with_reducible refine (HR.out _).mono ?_); rintro e w' ⟨rfl, rfl⟩) | ((with_reducible refine HP.out.mono ?_); rintro e w2 ⟨rfl, q⟩; have XB2 := blk_keep XB.out q; have r0 := cell_blk XB2 0; have r1 := cell_blk XB2 1; have r2 := cell_blk XB2 2; have f0 := blk_free XB2 0; have f1 := blk_free XB2 1; have f2 := blk_free XB2 2) | ((with_reducible refine (HL.out _).mono ?_); rintro e w3 ⟨rfl, rfl⟩))
            have XE := box_set XB2 (.int .u8 0) (.string ⟨#[]⟩) (.int .i64 0)
            have KE := box_end HKA.out HBL.out (.int .u8 0) (.string ⟨#[]⟩) (.int .i64 0) q
            obtain ⟨wf, hwf⟩ : ∃ z, (((w2.setCell ⟨b, 0, none⟩ (.int .u8 0)).setCell ⟨b, 1, none⟩ (.string ⟨#[]⟩)).setCell ⟨b, 2, none⟩ (.int .i64 0)) = z := ⟨_, rfl⟩
            rw [hwf] at XE KE ⊢
            clear r0 r1 r2 f0 f1 f2 hwf
            have r0 := cell_blk XE 0
            have r1 := cell_blk XE 1
            have r2 := cell_blk XE 2
            exact bodyPost_ret (v := .tuple #[.agg #[.int .u8 0, .string ⟨#[]⟩, .int .i64 0], .int .i64 0]) (by simp [results, Tryz.results48, go_sem, r0, r1, r2]) rfl ⟨rfl, KE⟩
        · have y2 : decide ((n : Int) < (s.size : Int)) = false := decide_eq_false (by omega)
          obtain rfl : R = some (v, n) := HN2.out (by
            rintro (⟨e1, e2⟩ | ⟨c, e1, e2⟩)
            · exact z5 e2
            · rw [List.getElem?_eq_none (by rw [← Lib.size_eq]; omega)] at e1; cases e1)
          go_enter Tryz.func48, Tryz.ntmps48
          go_wp2_with (first | ((with_reducible refine (HT.out _).mono ?_); rintro e w' ⟨rfl, rfl⟩) | ((with_reducible refine (HR.out _).mono ?_); rintro e w' ⟨rfl, rfl⟩) | ((with_reducible refine HP.out.mono ?_); rintro e w2 ⟨rfl, q⟩; have XB2 := blk_keep XB.out q; have r0 := cell_blk XB2 0; have r1 := cell_blk XB2 1; have r2 := cell_blk XB2 2; have f0 := blk_free XB2 0; have f1 := blk_free XB2 1; have f2 := blk_free XB2 2))
          have XE := box_set XB2 (.int .u8 2) (.string ⟨#[]⟩) (.int .i64 v)
          have KE := box_end HKA.out HBL.out (.int .u8 2) (.string ⟨#[]⟩) (.int .i64 v) q
          obtain ⟨wf, hwf⟩ : ∃ z, (((w2.setCell ⟨b, 0, none⟩ (.int .u8 2)).setCell ⟨b, 1, none⟩ (.string ⟨#[]⟩)).setCell ⟨b, 2, none⟩ (.int .i64 v)) = z := ⟨_, rfl⟩
          rw [hwf] at XE KE ⊢
          clear r0 r1 r2 f0 f1 f2 hwf
          have r0 := cell_blk XE 0
          have r1 := cell_blk XE 1
          have r2 := cell_blk XE 2
          exact bodyPost_ret (v := .tuple #[.agg #[.int .u8 2, .string ⟨#[]⟩, .int .i64 v], .int .i64 (n : Int)]) (by simp [results, Tryz.results48, go_sem, r0, r1, r2]) rfl ⟨rfl, KE⟩
      · have z3 : (x == 48) = false := by simp [z2]
        have HZX : Hid (¬ x = 48) := Lib.hid z2
        clear z2
        by_cases y1 : n < s.size
        · have y2 : (n : Int) < (s.size : Int) := by omega
          have HC : Hid (s.data.toList[n]? = some (s[n]'y1)) := Lib.hid (by rw [List.getElem?_eq_getElem (by rw [← Lib.size_eq]; exact y1), get_list])
          have HL := Lib.hid (fun W => letter_any (s[n]'y1) W)
          obtain ⟨r, hr⟩ : ∃ r, Lx.ltr (s[n]'y1) = r := ⟨_, rfl⟩
          rw [hr] at HL
          have HLR := Lib.hid hr
          clear hr
          obtain ⟨y, hy⟩ : ∃ y : Int, ((s[n]'y1).toNat : Int) = y := ⟨_, rfl⟩
          rw [hy] at HL
          cases r
          · obtain rfl : R = some (v, n) := HN2.out (by
              rintro (⟨e1, e2⟩ | ⟨c, e1, e2⟩)
              · rw [HD0.out] at e1; cases e1; exact HZX.out (HAX.out.2 rfl)
              · rw [HC.out] at e1; cases e1; rw [HLR.out] at e2; cases e2)
            go_enter Tryz.func48, Tryz.ntmps48
            go_wp2_with (first | ((with_reducible refine (HT.out _).mono ?_); rintro e w' ⟨rfl, rfl⟩) | ((with_reducible refine (HR.out _).mono ?_); rintro e w' ⟨rfl, rfl⟩) | ((with_reducible refine HP.out.mono ?_); rintro e w2 ⟨rfl, q⟩; have XB2 := blk_keep XB.out q; have r0 := cell_blk XB2 0; have r1 := cell_blk XB2 1; have r2 := cell_blk XB2 2; have f0 := blk_free XB2 0; have f1 := blk_free XB2 1; have f2 := blk_free XB2 2) | ((with_reducible refine (HL.out _).mono ?_); rintro e w3 ⟨rfl, rfl⟩))
            have XE := box_set XB2 (.int .u8 2) (.string ⟨#[]⟩) (.int .i64 v)
            have KE := box_end HKA.out HBL.out (.int .u8 2) (.string ⟨#[]⟩) (.int .i64 v) q
            obtain ⟨wf, hwf⟩ : ∃ z, (((w2.setCell ⟨b, 0, none⟩ (.int .u8 2)).setCell ⟨b, 1, none⟩ (.string ⟨#[]⟩)).setCell ⟨b, 2, none⟩ (.int .i64 v)) = z := ⟨_, rfl⟩
            rw [hwf] at XE KE ⊢
            clear r0 r1 r2 f0 f1 f2 hwf
            have r0 := cell_blk XE 0
            have r1 := cell_blk XE 1
            have r2 := cell_blk XE 2
            exact bodyPost_ret (v := .tuple #[.agg #[.int .u8 2, .string ⟨#[]⟩, .int .i64 v], .int .i64 (n : Int)]) (by simp [results, Tryz.results48, go_sem, r0, r1, r2]) rfl ⟨rfl, KE⟩
          · obtain rfl : R = none := HN1.out (.inr ⟨_, HC.out, HLR.out⟩)
            go_enter Tryz.func48, Tryz.ntmps48
            go_wp2_with (first | ((with_reducible refine (HT.out _).mono ?_); rintro e w' ⟨rfl, rfl⟩) | ((with_reducible refine (HR.out _).mono ?_); rintro e w' ⟨rfl, rfl⟩) | ((with_reducible refine HP.out.mono ?_); rintro e w2 ⟨rfl, q⟩; have XB2 := blk_keep XB.out q; have r0 := cell_blk XB2 0; have r1 := cell_blk XB2 1; have r2 := cell_blk XB2 2; have f0 := blk_free XB2 0; have f1 := blk_free XB2 1; have f2 := blk_free XB2 2) | ((with_reducible refine (HL.out _).mono ?_); rintro e w3 ⟨rfl, rfl⟩))
            have XE := box_set XB2 (.int .u8 0) (.string ⟨#[]⟩) (.int .i64 0)
            have KE := box_end HKA.out HBL.out (.int .u8 0) (.string ⟨#[]⟩) (.int .i64 0) q
            obtain ⟨wf, hwf⟩ : ∃ z, (((w2.setCell ⟨b, 0, none⟩ (.int .u8 0)).setCell ⟨b, 1, none⟩ (.string ⟨#[]⟩)).setCell ⟨b, 2, none⟩ (.int .i64 0)) = z := ⟨_, rfl⟩
            rw [hwf] at XE KE ⊢
            clear r0 r1 r2 f0 f1 f2 hwf
            have r0 := cell_blk XE 0
            have r1 := cell_blk XE 1
            have r2 := cell_blk XE 2
            exact bodyPost_ret (v := .tuple #[.agg #[.int .u8 0, .string ⟨#[]⟩, .int .i64 0], .int .i64 0]) (by simp [results, Tryz.results48, go_sem, r0, r1, r2]) rfl ⟨rfl, KE⟩
        · have y2 : decide ((n : Int) < (s.size : Int)) = false := decide_eq_false (by omega)
          obtain rfl : R = some (v, n) := HN2.out (by
            rintro (⟨e1, e2⟩ | ⟨c, e1, e2⟩)
            · rw [HD0.out] at e1; cases e1; exact HZX.out (HAX.out.2 rfl)
            · rw [List.getElem?_eq_none (by rw [← Lib.size_eq]; omega)] at e1; cases e1)
          go_enter Tryz.func48, Tryz.ntmps48
          go_wp2_with (first | ((with_reducible refine (HT.out _).mono ?_); rintro e w' ⟨rfl, rfl⟩) | ((with_reducible refine (HR.out _).mono ?_); rintro e w' ⟨rfl, rfl⟩) | ((with_reducible refine HP.out.mono ?_); rintro e w2 ⟨rfl, q⟩; have XB2 := blk_keep XB.out q; have r0 := cell_blk XB2 0; have r1 := cell_blk XB2 1; have r2 := cell_blk XB2 2; have f0 := blk_free XB2 0; have f1 := blk_free XB2 1; have f2 := blk_free XB2 2))
          have XE := box_set XB2 (.int .u8 2) (.string ⟨#[]⟩) (.int .i64 v)
          have KE := box_end HKA.out HBL.out (.int .u8 2) (.string ⟨#[]⟩) (.int .i64 v) q
          obtain ⟨wf, hwf⟩ : ∃ z, (((w2.setCell ⟨b, 0, none⟩ (.int .u8 2)).setCell ⟨b, 1, none⟩ (.string ⟨#[]⟩)).setCell ⟨b, 2, none⟩ (.int .i64 v)) = z := ⟨_, rfl⟩
          rw [hwf] at XE KE ⊢
          clear r0 r1 r2 f0 f1 f2 hwf
          have r0 := cell_blk XE 0
          have r1 := cell_blk XE 1
          have r2 := cell_blk XE 2
          exact bodyPost_ret (v := .tuple #[.agg #[.int .u8 2, .string ⟨#[]⟩, .int .i64 v], .int .i64 (n : Int)]) (by simp [results, Tryz.results48, go_sem, r0, r1, r2]) rfl ⟨rfl, KE⟩

def dayT (s : List UInt8) : Option (Lx.Tk × Nat) := match readOf (s.take (Lx.run Lx.dlt s)) with
  | some d => some ((3, [], d), 1 + Lx.run Lx.dlt s)
  | none => none
set_option maxHeartbeats 1000000 in
theorem day_any (s : ByteArray) (w : World) (hT : Tx w) (h0 : 0 < s.size) (hs : s.size ≤ 1048576) :
    Calls Tryz.prog 46 #[.string s] w fun e w' => e = .returned (fstV (dayT (s.data.toList.drop 1))) ∧ Below w.heap.size w w' := by
  have HE : Hid ((s.extract 1 s.size).data.toList = s.data.toList.drop 1) := Lib.hid (by rw [Lib.extract_data, List.take_of_length_le]; rw [List.length_drop, ← Lib.size_eq]; omega)
  have hes : (s.extract 1 s.size).size = s.size - 1 := by rw [Lib.size_eq, HE.out, List.length_drop, ← Lib.size_eq]
  obtain ⟨k, hk⟩ : ∃ k, Lx.run Lx.dlt (s.data.toList.drop 1) = k := ⟨_, rfl⟩
  have hkl := Lx.run_le Lx.dlt (s.data.toList.drop 1)
  rw [hk, List.length_drop, ← Lib.size_eq] at hkl
  have HR := Lib.hid (fun W => runT (s.extract 1 s.size) W (by unfold maxLen; omega))
  rw [HE.out, hk] at HR
  obtain ⟨n, hn⟩ : ∃ n : Nat, 1 + k = n := ⟨_, rfl⟩
  have HF : Hid ((s.extract 1 n).data.toList = (s.data.toList.drop 1).take k) := Lib.hid (by rw [Lib.extract_data]; congr 1; omega)
  obtain ⟨b, hb⟩ : ∃ z, w.heap.size = z := ⟨_, rfl⟩
  obtain ⟨w1, hw1⟩ : ∃ z, w.alloc (.cells #[.int .u8 0, .string ⟨#[]⟩, .int .i64 0] 60) = z := ⟨_, rfl⟩
  have KA : Below w.heap.size w w1 := by rw [← hw1]; exact (Below.refl _ w).alloc (Nat.le_refl _) _
  have XB : Hid (w1.heap[b]? = some (.cells #[.int .u8 0, .string ⟨#[]⟩, .int .i64 0] 60 (0, 0))) := Lib.hid (by rw [← hw1, ← hb, al_new])
  have HKA := Lib.hid KA
  have HBL : Hid (w.heap.size ≤ b) := Lib.hid (by omega)
  have HP := Lib.hid (read_any (s.extract 1 n) w1 (hT.tabs.1.keep HKA.out))
  rw [HF.out] at HP
  obtain ⟨R, hR⟩ : ∃ R, dayT (s.data.toList.drop 1) = R := ⟨_, rfl⟩
  have HDT : Hid ((readOf ((s.data.toList.drop 1).take k) = none → dayT (s.data.toList.drop 1) = none) ∧ ∀ v, readOf ((s.data.toList.drop 1).take k) = some v → dayT (s.data.toList.drop 1) = some ((3, [], v), n)) := Lib.hid (by
    unfold dayT
    rw [hk, hn]
    exact ⟨fun h => by rw [h], fun v h => by rw [h]⟩)
  rw [hR] at HDT ⊢
  have hn2 : (1 : Int) + (k : Int) = (n : Int) := by omega
  have n1 : (1 : Int) ≤ (n : Int) := by omega
  have n2 : (n : Int) ≤ (s.size : Int) := by omega
  have s1 : (s.size : Int) ≤ 1048576 := by omega
  have s0 : (1 : Int) ≤ (s.size : Int) := by omega
  have k0 : (0 : Int) ≤ (k : Int) := by omega
  have k1 : (k : Int) ≤ 1048576 := by omega
  clear hR hk hn hes hkl KA hT
  cases hr : readOf ((s.data.toList.drop 1).take k) with
  | none =>
    obtain rfl : R = none := HDT.out.1 hr
    rw [hr] at HP
    have HP : Hid (Calls Tryz.prog 66 #[.string (s.extract 1 n)] w1 fun e w' => e = .returned (.tuple #[.int .i64 0, .int .i64 30]) ∧ Below w1.heap.size w1 w') := HP
    clear hr HDT
    go_enter Tryz.func46, Tryz.ntmps46
    go_wp2_with (first | ((with_reducible refine (HR.out _).mono ?_); rintro e w' ⟨rfl, rfl⟩) | ((with_reducible refine HP.out.mono ?_); rintro e w2 ⟨rfl, q⟩; have XB2 := blk_keep XB.out q; have r0 := cell_blk XB2 0; have r1 := cell_blk XB2 1; have r2 := cell_blk XB2 2; have f0 := blk_free XB2 0; have f1 := blk_free XB2 1; have f2 := blk_free XB2 2))
    have XE := box_set XB2 (.int .u8 0) (.string ⟨#[]⟩) (.int .i64 0)
    have KE := box_end HKA.out HBL.out (.int .u8 0) (.string ⟨#[]⟩) (.int .i64 0) q
    obtain ⟨wf, hwf⟩ : ∃ z, (((w2.setCell ⟨b, 0, none⟩ (.int .u8 0)).setCell ⟨b, 1, none⟩ (.string ⟨#[]⟩)).setCell ⟨b, 2, none⟩ (.int .i64 0)) = z := ⟨_, rfl⟩
    rw [hwf] at XE KE ⊢
    clear r0 r1 r2 f0 f1 f2 hwf
    have r0 := cell_blk XE 0
    have r1 := cell_blk XE 1
    have r2 := cell_blk XE 2
    exact bodyPost_ret (v := .tuple #[.agg #[.int .u8 0, .string ⟨#[]⟩, .int .i64 0], .int .i64 0]) (by simp [results, Tryz.results46, go_sem, r0, r1, r2]) rfl ⟨rfl, KE⟩
  | some v =>
    obtain rfl : R = some ((3, [], v), n) := HDT.out.2 v hr
    rw [hr] at HP
    have HP : Hid (Calls Tryz.prog 66 #[.string (s.extract 1 n)] w1 fun e w' => e = .returned (.tuple #[.int .i64 v, .int .i64 0]) ∧ Below w1.heap.size w1 w') := HP
    clear hr HDT
    go_enter Tryz.func46, Tryz.ntmps46
    go_wp2_with (first | ((with_reducible refine (HR.out _).mono ?_); rintro e w' ⟨rfl, rfl⟩) | ((with_reducible refine HP.out.mono ?_); rintro e w2 ⟨rfl, q⟩; have XB2 := blk_keep XB.out q; have r0 := cell_blk XB2 0; have r1 := cell_blk XB2 1; have r2 := cell_blk XB2 2; have f0 := blk_free XB2 0; have f1 := blk_free XB2 1; have f2 := blk_free XB2 2))
    have XE := box_set XB2 (.int .u8 3) (.string ⟨#[]⟩) (.int .i64 v)
    have KE := box_end HKA.out HBL.out (.int .u8 3) (.string ⟨#[]⟩) (.int .i64 v) q
    obtain ⟨wf, hwf⟩ : ∃ z, (((w2.setCell ⟨b, 0, none⟩ (.int .u8 3)).setCell ⟨b, 1, none⟩ (.string ⟨#[]⟩)).setCell ⟨b, 2, none⟩ (.int .i64 v)) = z := ⟨_, rfl⟩
    rw [hwf] at XE KE ⊢
    clear r0 r1 r2 f0 f1 f2 hwf
    have r0 := cell_blk XE 0
    have r1 := cell_blk XE 1
    have r2 := cell_blk XE 2
    exact bodyPost_ret (v := .tuple #[.agg #[.int .u8 3, .string ⟨#[]⟩, .int .i64 v], .int .i64 (n : Int)]) (by simp [results, Tryz.results46, go_sem, r0, r1, r2]) rfl ⟨rfl, KE⟩

theorem idx_mem : ∀ (l : List UInt8) (c : UInt8), 0 ≤ Lib.indexByte l c ↔ c ∈ l
  | [], c => by simp [Lib.indexByte]
  | b :: l, c => by
    have ih := idx_mem l c
    have ge := Lib.indexByte_ge l c
    unfold Lib.indexByte
    by_cases h : b = c
    · subst h; simp
    · have h1 : (b == c) = false := by simp [h]
      rw [h1, if_neg (by decide)]
      by_cases h2 : Lib.indexByte l c = -1
      · have h3 : (Lib.indexByte l c == -1) = true := by simp [h2]
        rw [h3, if_pos rfl]
        have : ¬ c ∈ l := fun z => by have := ih.2 z; omega
        simp [this, Ne.symm h]
      · have h3 : (Lib.indexByte l c == -1) = false := by simp [h2]
        rw [h3, if_neg (by decide)]
        have : c ∈ l := ih.1 (by omega)
        simp [this]; omega
theorem idx_marks (c : UInt8) : 0 ≤ Lib.indexByte [40, 41, 44, 61, 58, 91, 93] c ↔ Lx.mrk c = true := by
  rw [idx_mem]
  unfold Lx.mrk
  rw [decide_eq_true_iff]
  have e : ∀ k : UInt8, (c = k) ↔ c.toNat = k.toNat := fun k => ⟨fun h => by rw [h], fun h => UInt8.toNat_inj.1 h⟩
  simp only [List.mem_cons, List.not_mem_nil, or_false, e]
  have h0 : (40 : UInt8).toNat = 40 := rfl
  have h1 : (41 : UInt8).toNat = 41 := rfl
  have h2 : (44 : UInt8).toNat = 44 := rfl
  have h3 : (61 : UInt8).toNat = 61 := rfl
  have h4 : (58 : UInt8).toNat = 58 := rfl
  have h5 : (91 : UInt8).toNat = 91 := rfl
  have h6 : (93 : UInt8).toNat = 93 := rfl
  rw [h0, h1, h2, h3, h4, h5, h6]
end Go.Proofs.YtimjendkpjojoaaGreatDoor
