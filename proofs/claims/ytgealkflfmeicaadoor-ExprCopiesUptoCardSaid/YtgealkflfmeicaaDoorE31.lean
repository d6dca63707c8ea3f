/- The document's own answer for layer 9: Names. -/
import Derived.Test.YtgealkflfmeicaaDoorE30
import Derived.Test.YtgealkflfmeicaaDoorE25
namespace Go.Proofs.YtgealkflfmeicaaDoor
set_option linter.unusedVariables false
set_option linter.unusedSimpArgs false
open Go.ChangeShapes Go.WideShapes Go.ChangeAt Go.RowKit
noncomputable def ddS (a : List ByteArray) (s : ByteArray) : List ByteArray := if isIn s a = true then a else a ++ [s]
noncomputable def dd (a l : List ByteArray) : List ByteArray := l.foldl ddS a
theorem mem_ddS (a : List ByteArray) (s x : ByteArray) : x ∈ ddS a s ↔ x ∈ a ∨ x = s := by
  unfold ddS
  by_cases h : isIn s a = true
  · rw [if_pos h]
    constructor
    · exact .inl
    · rintro (h2 | rfl)
      · exact h2
      · exact (isIn_iff _ _).1 h
  · rw [if_neg h]; simp
theorem mem_dd : ∀ (l a : List ByteArray) (x : ByteArray), x ∈ dd a l ↔ x ∈ a ∨ x ∈ l
  | [], a, x => by simp [dd]
  | s :: r, a, x => by
    show x ∈ dd (ddS a s) r ↔ _
    rw [mem_dd r, mem_ddS, List.mem_cons, or_assoc]
theorem dd_snoc (a l : List ByteArray) (s : ByteArray) : dd a (l ++ [s]) = ddS (dd a l) s := by unfold dd; rw [List.foldl_append]; rfl
theorem dd_le : ∀ (l a : List ByteArray), (dd a l).length ≤ a.length + l.length
  | [], a => Nat.le_refl _
  | s :: r, a => by
    have h := dd_le r (ddS a s)
    have h2 : (ddS a s).length ≤ a.length + 1 := by unfold ddS; split <;> simp
    show (dd (ddS a s) r).length ≤ _
    simp; omega
theorem nAll_dd : ∀ (L : List Pt) (Z : List ByteArray), nAll Z L = dd Z (rawP L)
  | [], Z => rfl
  | p :: r, Z => by
    show nAll (nAdd Z p) r = _
    rw [nAll_dd r]
    have e : rawP (p :: r) = hd1 p.nm ++ rawP r := by
      unfold rawP hd1
      cases h : p.nm.toList.isEmpty <;> simp [h]
    rw [e]
    by_cases z : p.nm = ⟨#[]⟩
    · rw [nAdd_skip z]
      have : hd1 p.nm = [] := by unfold hd1; rw [if_pos (by rw [z]; kernel_rfl)]
      rw [this]; rfl
    · have z1 : p.nm.toList.isEmpty = false := by
        cases h : p.nm.toList.isEmpty
        · rfl
        · exact absurd ((nm_empty _).1 h) z
      have h1 : hd1 p.nm = [p.nm] := by unfold hd1; rw [z1]; rfl
      rw [h1]
      show _ = dd (ddS Z p.nm) (rawP r)
      by_cases m : p.nm ∈ Z
      · rw [nAdd_old m]; unfold ddS; rw [if_pos ((isIn_iff _ _).2 m)]
      · rw [nAdd_new m z]; unfold ddS; rw [if_neg (fun h => m ((isIn_iff _ _).1 h))]
theorem own_low {w : World} {B B' n : Nat} {v : Value} {xs : List Value} (h : w.ownsRow B 9 1 v n xs) (q : B' ≤ B) : w.ownsRow B' 9 1 v n xs := by
  refine ⟨h.1, ?_⟩
  rcases h.2 with hn | ⟨g, cap, cur, hv, hb, rest⟩
  · exact .inl hn
  · exact .inr ⟨g, cap, cur, hv, Nat.le_trans q hb, rest⟩
theorem nms_dd (l : List (Pt × Int)) : nmsOf l = dd [] (rawN l) := by rw [nms_all, nAll_dd]; rfl
set_option maxRecDepth 8000 in
set_option maxHeartbeats 2000000 in
theorem rnames_any (n : Nat) (v : Value) (F : Tour) (w : World) (hF : ExAt w n v F) (hl : (F 1).length ≤ 1048576) :
    Calls Tryd.prog 22 #[v] w fun e w' => ∃ v', e = .returned v' ∧ Hid (w'.ownsRow w.heap.size 9 1 v' (nmsOf (F 1)).length ((nmsOf (F 1)).map Value.string)) ∧ Hid (Below w.heap.size w w') := by
  have HA := Lib.hid (fun W (h : Below w.heap.size w W) => rall_any n v F W (hF.keep h) hl)
  have HND := Lib.hid (nms_dd (F 1))
  have hl2 := Nat.le_trans (rawN_le (F 1)) hl
  obtain ⟨p, an, nn, nc, aa, ac, rfl, _⟩ := hF.head
  obtain ⟨L, hL⟩ : ∃ L, rawN (F 1) = L := ⟨_, rfl⟩
  obtain ⟨N, hN⟩ : ∃ N, nmsOf (F 1) = N := ⟨_, rfl⟩
  rw [hL] at HA hl2
  rw [hL, hN] at HND
  rw [hN]
  have HL := Lib.hid hl2
  clear hL hN hF hl hl2
  obtain ⟨b, hb⟩ : ∃ z, w.heap.size = z := ⟨_, rfl⟩
  obtain ⟨w1, hw1⟩ : ∃ z, w.alloc (.cells #[.int .u8 p.op, .string p.nm, .slice an nn nc, .slice aa p.k ac] 25) = z := ⟨_, rfl⟩
  have HX : Hid (Bx1 w w1 b #[.int .u8 p.op, .string p.nm, .slice an nn nc, .slice aa p.k ac]) := Lib.hid ⟨by rw [← hw1]; exact (Below.refl _ w).alloc (Nat.le_refl _) _, by rw [← hw1, ← hb, al_new]⟩
  have e0 := cell_blk HX.out.box 0
  have e1 := cell_blk HX.out.box 1
  have e2 := cell_blk HX.out.box 2
  have e3 := cell_blk HX.out.box 3
  go_enter Tryd.func22, Tryd.ntmps22
  go_wp2_with fail
  (with_reducible refine (HA.out _ HX.out.bw).mono ?_)
  rintro e w2 ⟨v2, rfl, HR, q0⟩
  have KB := Lib.hid (HX.out.bw.trans (q0.out.mono HX.out.bw.size))
  obtain ⟨oa, ca, rfl, ha, hca⟩ := own_st2 HR.out
  have HS := Lib.hid ha
  clear HA q0 e0 e1 e2 e3 hw1 hb HX HR ha hca
  have n0 : (0 : Int) ≤ (L.length : Int) := by omega
  have n1 : (L.length : Int) ≤ 1048576 := by have := HL.out; omega
  go_wp2
  go_loopw [3, 5, 6, 7] (fun s3 ii s6 s7 wr => ∃ i : Nat, i ≤ L.length ∧ ii = .int .i64 i ∧ Hid (Below w2.heap.size w2 wr) ∧ Hid (wr.ownsRow w2.heap.size 9 1 s3 (dd [] (L.take i)).length ((dd [] (L.take i)).map Value.string))) (fun s3 ii s6 s7 _ => L.length - (intOf ii).toNat)
  case atStart => exact ⟨0, Nat.zero_le _, rfl, Lib.hid (Below.refl _ _), Lib.hid (World.ownsRow_nil _ _ _ _)⟩
  case round =>
    obtain ⟨i, hi, rfl, KE, HO⟩ := hrel
    have i0 : (0 : Int) ≤ (i : Int) := by omega
    obtain ⟨wo, rfl⟩ : ∃ wo : World, wo = wr := ⟨_, rfl⟩
    by_cases ilt : i < L.length
    · have i1 : (i : Int) < L.length := by omega
      obtain ⟨yb, rfl, hy⟩ := HS.out.here (by omega)
      have b0 := cell_keep (hy i ilt) KE.out
      have HY := Lib.hid (fun i h => cell_keep (hy i h) KE.out)
      obtain ⟨S, hS⟩ : ∃ S, L[i] = S := ⟨_, rfl⟩
      rw [hS] at b0
      have HTK : Hid (L.take (i + 1) = L.take i ++ [S]) := Lib.hid (by rw [List.take_succ_eq_append_getElem ilt, hS])
      clear hy hS
      go_upto_region 8 with fail
      go_loopw [6, 7] (fun s6 kk wr => ∃ (k : Nat) (r : Bool), k ≤ i ∧ kk = .int .i64 k ∧ s6 = .bool r ∧ Hid (Below wo.heap.size wo wr) ∧ Hid (r = true ↔ S ∈ L.take k)) (fun s6 kk _ => i - (intOf kk).toNat)
      case atStart => exact ⟨0, false, Nat.zero_le _, rfl, rfl, Lib.hid (Below.refl _ _), Lib.hid (by simp)⟩
      case round =>
        obtain ⟨k, r, hk, rfl, rfl, KW, HR⟩ := hrel
        have j0 : (0 : Int) ≤ (k : Int) := by omega
        by_cases klt : k < i
        · have j1 : (k : Int) < i := by omega
          have a0 := cell_keep (HY.out k (by omega)) KW.out
          have b0 := cell_keep b0 KW.out
          obtain ⟨T, hT⟩ : ∃ T, L[k]'(by omega) = T := ⟨_, rfl⟩
          rw [hT] at a0
          have HTI : Hid (L.take (k + 1) = L.take k ++ [T]) := Lib.hid (by rw [List.take_succ_eq_append_getElem (by omega), hT])
          have j2 : (k : Int) < L.length := by omega
          clear hT
          cases r
          · by_cases e : T = S
            · subst e
              have HR2 : Hid (true = true ↔ T ∈ L.take (k + 1)) := Lib.hid (by rw [HTI.out]; simp)
              have h2 : (T.toList == T.toList) = true := by simp
              go_upto_region 10 with fail
              go_quiet (fail)
              go_wp2
              go_roundw
              case rel => exact ⟨k + 1, true, by omega, by go_num, rfl, Lib.hid (below_drewN KW.out _), HR2⟩
              case measure => simp [intOf]; omega
            · have h2 : (T.toList == S.toList) = false := by
                cases z : T.toList == S.toList
                · rfl
                · rw [beq_iff_eq] at z
                  rw [ByteArray.toList_eq, ByteArray.toList_eq] at z
                  exact absurd (kl_inj (congrArg Lit.string z)) e
              have HR2 : Hid (false = true ↔ S ∈ L.take (k + 1)) := Lib.hid (by rw [HTI.out, List.mem_append, List.mem_singleton, ← HR.out]; simp [Ne.symm e])
              go_upto_region 10 with fail
              go_quiet (fail)
              go_wp2
              go_roundw
              case rel => exact ⟨k + 1, false, by omega, by go_num, rfl, Lib.hid (below_drewN KW.out _), HR2⟩
              case measure => simp [intOf]; omega
          · have HR2 : Hid (true = true ↔ S ∈ L.take (k + 1)) := Lib.hid (by rw [HTI.out, List.mem_append, ← HR.out]; simp)
            go_upto_region 10 with fail
            go_quiet (fail)
            go_wp2
            go_roundw
            case rel => exact ⟨k + 1, true, by omega, by go_num, rfl, Lib.hid (below_drewN KW.out _), HR2⟩
            case measure => simp [intOf]; omega
        · have j1 : (i : Int) ≤ (k : Int) := by omega
          obtain rfl : k = i := by omega
          have HO := Lib.hid (keepB HO.out KW.out)
          have KE := Lib.hid (KE.out.trans (KW.out.mono KE.out.size))
          have b0 := cell_keep b0 KW.out
          clear KW HY
          cases r
          · have HNI : Hid (¬ isIn S (dd [] (L.take k)) = true) := Lib.hid (fun h => by
              have h2 := (mem_dd _ _ _).1 ((isIn_iff _ _).1 h)
              rcases h2 with h2 | h2
              · cases h2
              · have := HR.out.2 h2; cases this)
            have HLE : Hid ((dd [] (L.take k)).length + 1 ≤ 4194304) := Lib.hid (by
              have a1 := dd_le (L.take k) []
              have a2 : (L.take k).length ≤ L.length := by rw [List.length_take]; omega
              have := HL.out
              simp at a1; omega)
            go_wp2_with (at_builtin; go_loud (refine appS rfl _ _ rfl w2.heap.size _ u3 (dd [] (L.take k)).length ((dd [] (L.take k)).map Value.string) rfl ((HO.out).alloc _) wr.heap.size 1 #[.string S] rfl (al_new wr _) rfl (by simp [Value.oneCell']) HLE.out (by have := KE.out.size; simp; omega) ?_); intro v6 w6 HO6 HG6; have HO6 := Lib.hid HO6; have HG6 := Lib.hid HG6)
            have HW2 : Hid (w6.ownsRow w2.heap.size 9 1 v6 (dd [] (L.take (k + 1))).length ((dd [] (L.take (k + 1))).map Value.string)) := Lib.hid (by
              rw [HTK.out, dd_snoc, ddS, if_neg HNI.out, List.length_append, List.map_append]; exact HO6.out)
            have KQ : Hid (Below w2.heap.size w2 (wr.alloc (.cells #[.string S] 9))) := Lib.hid (KE.out.alloc KE.out.size _)
            have KE2 : Hid (Below w2.heap.size w2 w6) := Lib.hid (KQ.out.grown HG6.out KQ.out.size (fun q e => (HO.out.lt q e).1))
            clear HO6 HG6
            go_roundw
            case rel => exact ⟨k + 1, by omega, by go_num, KE2, HW2⟩
            case measure => simp [intOf]; omega
          · have HW2 : Hid (wr.ownsRow w2.heap.size 9 1 u3 (dd [] (L.take (k + 1))).length ((dd [] (L.take (k + 1))).map Value.string)) := Lib.hid (by
              rw [HTK.out, dd_snoc, ddS, if_pos ((isIn_iff _ _).2 ((mem_dd _ _ _).2 (.inr (HR.out.1 rfl))))]; exact HO.out)
            go_wp2
            go_roundw
            case rel => exact ⟨k + 1, by omega, by go_num, KE, HW2⟩
            case measure => simp [intOf]; omega
    · have i1 : (L.length : Int) ≤ (i : Int) := by omega
      have HO2 : Hid (wo.ownsRow w.heap.size 9 1 u3 N.length (N.map Value.string)) := Lib.hid (by
        have a := HO.out
        rw [List.take_of_length_le (by omega), ← HND.out] at a
        exact own_low a KB.out.size)
      have KF := Lib.hid (KB.out.trans (KE.out.mono KB.out.size))
      clear HO HS
      obtain ⟨o5, c5, rfl⟩ := row_shape HO2.out
      go_wp2
      go_returns
      exact ⟨_, rfl, HO2, KF⟩
end Go.Proofs.YtgealkflfmeicaaDoor
