/- V1, V2 in one. -/
import Derived.Test.YtmjapbjjfhmohaaKaj
import Derived.Test.YtmjapbjjfhmohaaKal
import Derived.BigRegion
namespace Go.Proofs.Ytmjapbjjfhmohaa
set_option linter.unusedVariables false
set_option linter.unusedSimpArgs false
open Go.ChangeShapes Go.WideShapes Go.ChangeAt Go.RowKit Go.Shelf

theorem cat_len (a l : List Sp) : (cat a l).length ≤ a.length + l.length := by
  have h := glue_len a l
  unfold cat
  rw [List.length_append]; omega
theorem colU_len {S : Int → List Sp} {M : Nat} (h : ∀ j, (S j).length ≤ M) (y : Int) : ∀ j : Nat, (colU (many S y j)).length ≤ j * M
  | 0 => by simp [many, colU]
  | j + 1 => by
    have h1 := colU_len h y j
    have h2 := cat_len (colU (many S y j)) (S (y + (j : Int)))
    have h3 := h (y + (j : Int))
    rw [many_snoc, colU_app, colU_one, Nat.add_mul]; omega
theorem colU_snoc (S : Int → List Sp) (y : Int) (j : Nat) : colU (many S y (j + 1)) = cat (colU (many S y j)) (S (y + (j : Int))) := by rw [many_snoc, colU_app, colU_one]
/-- Told granules, united. -/
theorem un_good {F : Fv} (rt : F.Rt) (ok : F.Ok) (hl : F.cs.length = F.cn) (y : Int) : ∀ j : Nat, (∀ i : Nat, i < j → Told (y + (i : Int)) (gr F (y + (i : Int)))) → Good (colU (many (gr F) y j)) ∧ ∀ k, InR k → y + (j : Int) ≤ k → Ahd (colU (many (gr F) y j)) (gr F k)
  | 0, _ => ⟨by simp [many, colU, Good, Rt], fun k _ _ => by intro s hs; simp [many, colU] at hs⟩
  | j + 1, h => by
    obtain ⟨g, ah⟩ := un_good rt ok hl y j (fun i hi => h i (by omega))
    have tj := h j (by omega)
    have gl : Good (gr F (y + (j : Int))) := gr_good ok tj.2
    have hg := glue_good g gl (ah _ tj.1 (Int.le_refl _))
    rw [colU_snoc]
    refine ⟨hg.1, fun k hk hle => ?_⟩
    intro s hs u hu
    obtain ⟨i, hi, rfl⟩ := List.getElem_of_mem hs
    have gi := good_at hg.1 i hi
    have hm : mem ((glue (colU (many (gr F) y j)) (gr F (y + (j : Int)))).1 ++ (glue (colU (many (gr F) y j)) (gr F (y + (j : Int)))).2) (cat (colU (many (gr F) y j)) (gr F (y + (j : Int))))[i].2 := ⟨_, List.getElem_mem hi, gi.2.1, Int.le_refl _⟩
    rcases (hg.2 _).1 hm with ⟨v, hv, v1, v2⟩ | ⟨v, hv, v1, v2⟩
    · have := ah k hk (by omega) v hv u hu; omega
    · have := gr_order rt ok hl _ (Nat.le_refl _) (show y + (j : Int) < k by omega) tj.1.1 hk.2 v hv u hu; omega
theorem un_step {F : Fv} (rt : F.Rt) (ok : F.Ok) (hl : F.cs.length = F.cn) (y : Int) (j : Nat) (h : ∀ i : Nat, i < j + 1 → Told (y + (i : Int)) (gr F (y + (i : Int)))) {r : List Sp} (gr_ : Good r) (hm : ∀ t, mem r t ↔ mem (colU (many (gr F) y j)) t ∨ mem (gr F (y + (j : Int))) t) : r = colU (many (gr F) y (j + 1)) := by
  obtain ⟨g, ah⟩ := un_good rt ok hl y j (fun i hi => h i (by omega))
  have tj := h j (by omega)
  have hg := glue_good g (gr_good ok tj.2) (ah _ tj.1 (Int.le_refl _))
  rw [colU_snoc]
  exact rt_unique gr_ hg.1 (fun t => (hm t).trans (hg.2 t).symm)
theorem gr_len60 {F : Fv} (hs : F.Small) (j : Int) : (gr F j).length ≤ 60 := by
  obtain ⟨s1, s2, s3⟩ := hs
  unfold Fv.size at s3
  exact gr_lens (fun l hl => by have := le_lens hl; omega) (fun o ho => by have := le_lens (ls := tks F.os) (List.mem_map.2 ⟨o, ho, rfl⟩); omega) j
/-- What the law's union answers. -/
def UnTo (F : Fv) (y : Int) (k : Nat) (w : World) (e : Ending) (w' : World) : Prop := ∃ (ao : Option Addr) (n c : Nat) (L : List Sp) (ok : Bool), e = .returned (.tuple #[.slice ao n c, .bool ok]) ∧ Hid (SpAt w' ao n c L) ∧ Hid (Below w.heap.size w w') ∧ Hid (ok = true → (∀ i : Nat, i < k → Told (y + (i : Int)) (gr F (y + (i : Int)))) ∧ L = colU (many (gr F) y k))
set_option maxRecDepth 8000 in
set_option maxHeartbeats 4000000 in
theorem unionF_any (F : Fv) (y : Int) (k : Nat) (w : World) (hF : F.At w) (rt : F.Rt) (hs : F.Small) (hk : k ≤ 100) (y1 : -4611686018427387904 ≤ y) (y2 : y ≤ 4611686018427387904) :
    Calls Try.prog 10 #[F.v, .int .i64 y, .int .i64 (k : Int)] w fun e w' => UnTo F y k w e w' := by
  have hok := rt.okm hs.mid
  have CG := Lib.hid (fun W x (h : F.At W) => get_tell F x W h hok)
  have HRT := Lib.hid rt
  have HOK := Lib.hid hok
  have HL := Lib.hid hF.core.len
  have HLN := Lib.hid (fun j => gr_len60 hs j)
  obtain ⟨P, N, co, cn, cc, oo, on, oc, cs, os⟩ := F
  have CG : Hid (∀ W (x : Int), Fv.At ⟨P, N, co, cn, cc, oo, on, oc, cs, os⟩ W → Calls Try.prog 13 #[.agg #[.int .i64 P, .int .i64 N, .slice co cn cc, .slice oo on oc], .int .i64 x] W fun e w' => ∃ (ao : Option Addr) (n c : Nat) (L : List Sp) (k : Int), e = .returned (.tuple #[.slice ao n c, .int .i64 k]) ∧ Hid (Below W.heap.size W w') ∧ Hid (SpAt w' ao n c L) ∧ ((k = 0 ∧ Hid (Told x (gr ⟨P, N, co, cn, cc, oo, on, oc, cs, os⟩ x) ∧ L = gr ⟨P, N, co, cn, cc, oo, on, oc, cs, os⟩ x)) ∨ (k = 20 ∧ Hid (¬ Told x (gr ⟨P, N, co, cn, cc, oo, on, oc, cs, os⟩ x))))) := CG
  obtain ⟨b, hb⟩ : ∃ b, w.heap.size = b := ⟨_, rfl⟩
  obtain ⟨wb, hwb⟩ : ∃ wb, w.alloc (.cells #[.int .i64 P, .int .i64 N, .slice co cn cc, .slice oo on oc] 25) = wb := ⟨_, rfl⟩
  have HX : Hid (Fbox ⟨P, N, co, cn, cc, oo, on, oc, cs, os⟩ w wb b) := Lib.hid (by rw [← hwb, ← hb]; exact fbox_new hF)
  clear hF rt hs hok
  show Calls Try.prog 10 #[.agg #[.int .i64 P, .int .i64 N, .slice co cn cc, .slice oo on oc], .int .i64 y, .int .i64 (k : Int)] w _
  go_enter Try.func10, Try.ntmps10
  go_upto_region 1 with fail
  clear hwb hb
  go_wp2_with fail
  go_loopw [8, 9, 10, 11] (fun s8 s9 s10 s11 wr => ∃ (j : Nat) (ao : Option Addr) (n c : Nat), j ≤ k ∧ s9 = .int .i64 (y + (j : Int)) ∧ s8 = .slice ao n c ∧ Hid (SpAt wr ao n c (colU (many (gr ⟨P, N, co, cn, cc, oo, on, oc, cs, os⟩) y j))) ∧ Hid (∀ i : Nat, i < j → Told (y + (i : Int)) (gr ⟨P, N, co, cn, cc, oo, on, oc, cs, os⟩ (y + (i : Int)))) ∧ Hid (Fbox ⟨P, N, co, cn, cc, oo, on, oc, cs, os⟩ w wr b)) (fun s8 s9 s10 s11 _ => (y + (k : Int) - intOf s9).toNat)
  case atStart => exact ⟨0, none, 0, 0, Nat.zero_le _, by simp, rfl, Lib.hid (by simpa [many, colU] using SpAt.nil _), Lib.hid (fun i hi => absurd hi (Nat.not_lt_zero i)), HX⟩
  case round =>
    clear HX
    obtain ⟨j, ao, n, c, hj, rfl, rfl, HSP, HTL, HX⟩ := hrel
    by_cases jl : j < k
    · have j1 : y + (j : Int) < y + (k : Int) := by omega
      have e0 := HX.out.c0
      have e1 := HX.out.c1
      have e2 := HX.out.c2
      have e3 := HX.out.c3
      go_wp2_with fail
      (with_reducible refine (CG.out _ _ HX.out.at_).mono ?_)
      rintro e u1 ⟨sa, sn, sc, L1, ek, rfl, q, y1', d1⟩
      have HX := Lib.hid (HX.out.keep q.out)
      have HSP := Lib.hid (HSP.out.keep q.out)
      clear q e0 e1 e2 e3
      rcases d1 with ⟨rfl, h1⟩ | ⟨rfl, h1⟩
      · have HY := y1'
        have HTJ := Lib.hid h1.out.1
        have HLE := Lib.hid h1.out.2
        have HTL2 : Hid (∀ i : Nat, i < j + 1 → Told (y + (i : Int)) (gr ⟨P, N, co, cn, cc, oo, on, oc, cs, os⟩ (y + (i : Int)))) := Lib.hid (fun i hi => by
          by_cases q : i < j
          · exact HTL.out i q
          · obtain rfl : i = j := by omega
            exact HTJ.out)
        have ln1 : n ≤ 1000000 := by
          have h := HSP.out.len
          have h2 := colU_len HLN.out y j
          have h3 : j * 60 ≤ 100 * 60 := Nat.mul_le_mul_right _ (by omega)
          omega
        have ln2 : sn ≤ 1000000 := by
          have h := HY.out.len
          have h2 := HLN.out (y + (j : Int))
          rw [HLE.out] at h
          omega
        have CU := Lib.hid (union_any ao sa n c sn sc (colU (many (gr ⟨P, N, co, cn, cc, oo, on, oc, cs, os⟩) y j)) L1 (un_good HRT.out HOK.out HL.out y j HTL.out).1 (by rw [HLE.out]; exact gr_good HOK.out HTJ.out.2) ln1 ln2 u1 HSP.out HY.out)
        clear h1 y1'
        go_wp2_with fail
        (with_reducible refine CU.out.mono ?_)
        rintro e u2 ⟨v, r, rfl, g1, g2, g3, g4, q⟩
        have HX := Lib.hid (HX.out.keep q)
        obtain ⟨ro, rc, rfl, hrs⟩ := own_sp rfl g4
        have HRE : Hid (r = colU (many (gr ⟨P, N, co, cn, cc, oo, on, oc, cs, os⟩) y (j + 1))) := Lib.hid (un_step HRT.out HOK.out HL.out y j HTL2.out g1 (fun t => by rw [g2, HLE.out]))
        have HSP2 : Hid (SpAt u2 ro r.length rc (colU (many (gr ⟨P, N, co, cn, cc, oo, on, oc, cs, os⟩) y (j + 1)))) := Lib.hid (by have h := hrs; rw [HRE.out] at h ⊢; exact h)
        clear q g1 g2 g3 g4 hrs CU HSP HY HTL HTJ HLE ln1 ln2
        obtain ⟨rn, hrn⟩ : ∃ z, r.length = z := ⟨_, rfl⟩
        rw [hrn] at HSP2 ⊢
        clear hrn HRE
        go_wp2_with fail
        go_roundw
        case rel => exact ⟨j + 1, ro, rn, rc, by omega, by simp; omega, rfl, HSP2, HTL2, HX⟩
        case measure => simp [intOf]; omega
      · clear h1 y1'
        go_wp2
        go_returns
        exact ⟨none, 0, 0, [], false, rfl, Lib.hid (SpAt.nil _), Lib.hid HX.out.bw, Lib.hid (fun z => by cases z)⟩
    · obtain rfl : j = k := by omega
      have j1 : ¬ y + (j : Int) < y + (j : Int) := by omega
      go_wp2
      go_returns
      exact ⟨ao, n, c, _, true, rfl, HSP, Lib.hid HX.out.bw, Lib.hid (fun _ => ⟨HTL.out, rfl⟩)⟩
set_option maxRecDepth 8000 in
set_option maxHeartbeats 4000000 in
theorem gives_any (F : Fv) (i : Int) (ao : Option Addr) (n c : Nat) (L : List Sp) (w : World) (hF : F.At w) (rt : F.Rt) (hm : F.Mid) (hc : IsTurn F.cs F.P F.N F.cn ∧ ∀ o ∈ F.os, o.2 ≠ cg F.cs F.P F.N o.1) (hi : Told i (gr F i)) (hL : L = gr F i) (hs : SpAt w ao n c L) :
    Calls Try.prog 11 #[F.v, .int .i64 i, .slice ao n c] w fun e w' => e = .returned (.bool true) ∧ Below w.heap.size w w' := by
  have hok := rt.okm hm
  have CG := Lib.hid (fun W (h : F.At W) => get_tell F i W h hok)
  have CR := Lib.hid (fun W (h : F.At W) => right_mid F W h hm true ⟨fun _ => rt, fun _ => rfl⟩)
  have CI := Lib.hid (fun W (h : F.At W) => is_right F W h hok (fun W h => right_mid F W h hm true ⟨fun _ => rt, fun _ => rfl⟩) true ⟨fun _ => hc, fun _ => rfl⟩)
  have HTO := Lib.hid hi
  have HLG := Lib.hid hL
  obtain ⟨P, N, co, cn, cc, oo, on, oc, cs, os⟩ := F
  have CG : Hid (∀ W, Fv.At ⟨P, N, co, cn, cc, oo, on, oc, cs, os⟩ W → Calls Try.prog 13 #[.agg #[.int .i64 P, .int .i64 N, .slice co cn cc, .slice oo on oc], .int .i64 i] W fun e w' => ∃ (ao : Option Addr) (n c : Nat) (L : List Sp) (k : Int), e = .returned (.tuple #[.slice ao n c, .int .i64 k]) ∧ Hid (Below W.heap.size W w') ∧ Hid (SpAt w' ao n c L) ∧ ((k = 0 ∧ Hid (Told i (gr ⟨P, N, co, cn, cc, oo, on, oc, cs, os⟩ i) ∧ L = gr ⟨P, N, co, cn, cc, oo, on, oc, cs, os⟩ i)) ∨ (k = 20 ∧ Hid (¬ Told i (gr ⟨P, N, co, cn, cc, oo, on, oc, cs, os⟩ i))))) := CG
  have CR : Hid (∀ W, Fv.At ⟨P, N, co, cn, cc, oo, on, oc, cs, os⟩ W → Calls Try.prog 18 #[.agg #[.int .i64 P, .int .i64 N, .slice co cn cc, .slice oo on oc]] W fun e w' => e = .returned (.int .i64 0) ∧ Below W.heap.size W w') := CR
  have CI : Hid (∀ W, Fv.At ⟨P, N, co, cn, cc, oo, on, oc, cs, os⟩ W → Calls Try.prog 15 #[.agg #[.int .i64 P, .int .i64 N, .slice co cn cc, .slice oo on oc]] W fun e w' => e = .returned (.bool true) ∧ Below W.heap.size W w') := CI
  obtain ⟨b, hb⟩ : ∃ b, w.heap.size = b := ⟨_, rfl⟩
  obtain ⟨wb, hwb⟩ : ∃ wb, w.alloc (.cells #[.int .i64 P, .int .i64 N, .slice co cn cc, .slice oo on oc] 25) = wb := ⟨_, rfl⟩
  have HX : Hid (Fbox ⟨P, N, co, cn, cc, oo, on, oc, cs, os⟩ w wb b) := Lib.hid (by rw [← hwb, ← hb]; exact fbox_new hF)
  have HSP : Hid (SpAt wb ao n c L) := Lib.hid (by rw [← hwb]; exact hs.keep ((Below.refl _ w).alloc (Nat.le_refl _) _))
  clear hF rt hm hc hi hL hs hok
  show Calls Try.prog 11 #[.agg #[.int .i64 P, .int .i64 N, .slice co cn cc, .slice oo on oc], .int .i64 i, .slice ao n c] w _
  go_enter Try.func11, Try.ntmps11
  go_upto_region 1 with fail
  clear hwb hb
  have e0 := HX.out.c0
  have e1 := HX.out.c1
  have e2 := HX.out.c2
  have e3 := HX.out.c3
  go_wp2_with fail
  (with_reducible refine (CG.out _ HX.out.at_).mono ?_)
  rintro e u1 ⟨sa, sn, sc, L1, ek, rfl, q, y1, d1⟩
  have HX := Lib.hid (HX.out.keep q.out)
  have HSP := Lib.hid (HSP.out.keep q.out)
  have HY := y1
  clear q e0 e1 e2 e3 y1
  rcases d1 with ⟨rfl, h1⟩ | ⟨_, h1⟩
  · have HSA := Lib.hid (same_any sa ao sn sc n c L1 L u1 HY.out HSP.out true ⟨fun _ => by rw [HLG.out, h1.out.2], fun _ => rfl⟩)
    clear h1
    go_wp2_with fail
    (with_reducible refine HSA.out.mono ?_)
    rintro e u2 ⟨rfl, q⟩
    have HX := Lib.hid (HX.out.keep q)
    clear q HSA HY HSP
    have e0 := HX.out.c0
    have e1 := HX.out.c1
    have e2 := HX.out.c2
    have e3 := HX.out.c3
    go_wp2_with fail
    (with_reducible refine (CR.out _ HX.out.at_).mono ?_)
    rintro e u3 ⟨rfl, q⟩
    have HX := Lib.hid (HX.out.keep q)
    clear q e0 e1 e2 e3
    have e0 := HX.out.c0
    have e1 := HX.out.c1
    have e2 := HX.out.c2
    have e3 := HX.out.c3
    go_wp2_with fail
    (with_reducible refine (CI.out _ HX.out.at_).mono ?_)
    rintro e u4 ⟨rfl, q⟩
    have HX := Lib.hid (HX.out.keep q)
    clear q e0 e1 e2 e3
    go_wp2
    go_returns
    exact ⟨rfl, HX.out.bw⟩
  · exact absurd HTO.out h1.out

/-- Group's answer: an error, and nothing, or what is grouped. -/
def GpTw (F : Fv) (m a k : Nat) (W : World) (e : Ending) (w' : World) : Prop := (((∃ kw : Int, (kw = 3 ∨ kw = 20) ∧ e = .returned (.tuple #[.agg #[.int .i64 0, .int .i64 0, .slice none 0 0, .slice none 0 0], .int .i64 kw])) ∨ ∃ P N co cn cc oo on oc cs os, e = .returned (.tuple #[.agg #[.int .i64 P, .int .i64 N, .slice co cn cc, .slice oo on oc], .int .i64 0]) ∧ Hid (Fv.At ⟨P, N, co, cn, cc, oo, on, oc, cs, os⟩ w') ∧ Hid (GpG F m a k ⟨P, N, co, cn, cc, oo, on, oc, cs, os⟩))) ∧ Hid (Below W.heap.size W w')
theorem group_tw (F : Fv) (m a k : Nat) (w : World) (hF : F.At w) (rt : F.Rt) (hf : F.Few) (hm1 : 1 ≤ m) (hm2 : m ≤ 6000) (hp : Pa F m a k) : Calls Try.prog 8 #[F.v, .int .i64 (m : Int)] w fun e w' => GpTw F m a k w e w' :=
  (group_any F m a k w hF rt (hf.mid hF.core.len hF.odd.len) hf.1 hf.2.1 hf.2.2.1 hf.2.2.2 hm1 hm2 hp).mono (by
    rintro e w' ⟨h, q⟩
    refine ⟨?_, q⟩
    rcases h with ⟨rfl, _⟩ | ⟨rfl, _⟩ | ⟨h1, h2, K, G, ⟨e1, e2, e3, e4, e5, e6⟩, h3, h4, h5, rfl⟩
    · exact .inl ⟨3, .inl rfl, rfl⟩
    · exact .inl ⟨20, .inr rfl, rfl⟩
    · exact .inr ⟨_, _, _, _, _, _, _, _, _, _, rfl, Lib.hid h5.at_, Lib.hid ⟨h1, h2, rt_like h3 e1.symm e2.symm e3.symm e4.symm e5.symm e6.symm, can_like h4 e1 e2 e5 e6⟩⟩)
theorem lens_take (ls : List (List Sp)) (d : Nat) : lens (ls.take d) ≤ lens ls := by
  have h := List.take_append_drop d ls
  have h2 := lens_app (ls.take d) (ls.drop d)
  rw [h] at h2; omega
theorem lens_filter (p : Gr → Bool) : ∀ os : List Gr, lens (tks (os.filter p)) ≤ lens (tks os)
  | [] => by simp
  | o :: r => by
    have h := lens_filter p r
    rw [List.filter_cons]
    split
    · simp [tks, lens] at h ⊢; omega
    · simp [tks, lens] at h ⊢; omega
theorem can_mid {K G : Fv} (c : IsCan K G) (f : Full K.cs K.N ∨ K.cs = []) (h : K.Mid) (l1 : K.cs.length = K.cn) (l2 : K.os.length = K.on) (l3 : G.os.length = G.on) : G.Mid := by
  obtain ⟨a, b, d⟩ := h
  refine ⟨?_, ?_, ?_⟩
  · rcases c.turn with ⟨h, _⟩ | ⟨⟨l, hl, _⟩, h, _⟩
    · omega
    · rcases f with f | f
      · have := turn_le f h; omega
      · rw [f] at hl; cases hl
  · have := List.length_filter_le (fun o : Gr => !(decide (o.2 = cg K.cs K.P K.N o.1))) K.os
    have e : G.os.length ≤ K.os.length := by rw [c.os]; exact this
    omega
  · unfold Fv.size at d ⊢
    rw [c.cs, c.os]
    have h1 := lens_take K.cs G.cn
    have h2 := lens_filter (fun o : Gr => !(decide (o.2 = cg K.cs K.P K.N o.1))) K.os
    unfold canOs
    omega
theorem gpg_mid {F G : Fv} {m a k : Nat} {W : World} (g : GpG F m a k G) (hp : Pa F m a k) (hs : F.Small) (ho : F.os.length = F.on) (hG : G.At W) : G.Mid ∧ G.Rt ∧ (IsTurn G.cs G.P G.N G.cn ∧ ∀ o ∈ G.os, o.2 ≠ cg G.cs G.P G.N o.1) := by
  obtain ⟨f, l⟩ := gp_full hp
  have ha : a ≤ 12 := by
    have := hs.1
    rcases hp with ⟨_, _, _, h, _⟩ | ⟨_, _, _, _, _, h, _⟩ <;> omega
  have hb : (gpF F m a k).on ≤ 6000 := by
    have h1 := gpOs_len (gr F) m F.os
    have h2 := hs.2.1
    show (gpOs (gr F) m F.os).length ≤ 6000
    omega
  exact ⟨can_mid g.can f ⟨by show a ≤ 6000; omega, hb, g.size⟩ l rfl hG.odd.len, can_rt g.can g.rt l, can_is g.can f⟩
theorem same_zero : SameF Fv.zero Fv.zero := ⟨rfl, rfl, rfl, rfl⟩
set_option maxRecDepth 8000 in
set_option maxHeartbeats 8000000 in
theorem gather_all (F : Fv) (m0 i0 : Int) (w : World) (hF : F.At w) (hm1 : 0 ≤ m0) (hm2 : m0 ≤ 255) (hi1 : -2147483648 ≤ i0) (hi2 : i0 ≤ 2147483647) :
    Calls Try.prog 3 #[F.v, .int .u8 m0, .int .i32 i0] w fun e w' => e = .returned (.bool true) ∧ Below w.heap.size w w' := by
  have HAW := Lib.hid (fun W => awake_any W)
  obtain ⟨r, hr⟩ : ∃ r : Bool, r = true ↔ F.Small ∧ F.Rt := by classical exact ⟨decide _, decide_eq_true_iff⟩
  have HRI := Lib.hid hr
  have CR := Lib.hid (fun W (h : F.At W) => right_any2 F W h r hr)
  have HLC := Lib.hid hF.core.len
  have HLO := Lib.hid hF.odd.len
  obtain ⟨P, N, co, cn, cc, oo, on, oc, cs, os⟩ := F
  have HLC : Hid (cs.length = cn) := HLC
  have HLO : Hid (os.length = on) := HLO
  have CR : Hid (∀ W, Fv.At ⟨P, N, co, cn, cc, oo, on, oc, cs, os⟩ W → Calls Try.prog 6 #[.agg #[.int .i64 P, .int .i64 N, .slice co cn cc, .slice oo on oc]] W fun e w' => e = .returned (.bool r) ∧ Below W.heap.size W w') := CR
  obtain ⟨b, hb⟩ : ∃ b, w.heap.size = b := ⟨_, rfl⟩
  obtain ⟨wb, hwb⟩ : ∃ wb, w.alloc (.cells #[.int .i64 P, .int .i64 N, .slice co cn cc, .slice oo on oc] 25) = wb := ⟨_, rfl⟩
  have HX : Hid (Fbox ⟨P, N, co, cn, cc, oo, on, oc, cs, os⟩ w wb b) := Lib.hid (by rw [← hwb, ← hb]; exact fbox_new hF)
  clear hF hr
  show Calls Try.prog 3 #[.agg #[.int .i64 P, .int .i64 N, .slice co cn cc, .slice oo on oc], .int .u8 m0, .int .i32 i0] w _
  go_enter Try.func3, Try.ntmps3
  go_upto_region 1 with fail
  clear hwb hb
  have e0 := HX.out.c0
  have e1 := HX.out.c1
  have e2 := HX.out.c2
  have e3 := HX.out.c3
  go_wp2_with fail
  (with_reducible refine (CR.out _ HX.out.at_).mono ?_)
  rintro e w1 ⟨rfl, q⟩
  have HX := Lib.hid (HX.out.keep q)
  clear q e0 e1 e2 e3 CR
  cases r
  · skip
    go_wp2_with fail
    (with_reducible refine (HAW.out _).mono ?_)
    rintro e wz ⟨rfl, qz⟩
    have HZ := Lib.hid (HX.out.bw.trans (qz.mono HX.out.bw.size))
    clear qz
    go_wp2
    go_returns
    exact ⟨rfl, HZ.out⟩
  · have HSR := Lib.hid (HRI.out.1 rfl)
    clear HRI
    obtain ⟨A, hA, A1, A2⟩ : ∃ A : Nat, 1 + m0 % 100 = (A : Int) ∧ 1 ≤ A ∧ A ≤ 100 := ⟨(1 + m0 % 100).toNat, by omega, by omega, by omega⟩
    obtain ⟨I, hI, I1, I2⟩ : ∃ I : Int, i0 / 128 = I ∧ -16777216 ≤ I ∧ I ≤ 16777216 := ⟨_, rfl, by omega, by omega⟩
    have HHA := Lib.hid hA
    have HHI := Lib.hid hI
    clear hA hI
    go_upto_region 4 with fail
    rw [HHA.out, HHI.out]
    clear HHA HHI
    obtain ⟨a1, k1, hp1⟩ := pa_ex (F := ⟨P, N, co, cn, cc, oo, on, oc, cs, os⟩) (m := A) HSR.out.2.meas HLC.out (by omega)
    have P1x := Lib.hid hp1
    clear hp1
    have CX : Hid (∀ W, Fv.At ⟨P, N, co, cn, cc, oo, on, oc, cs, os⟩ W → Calls Try.prog 8 #[.agg #[.int .i64 P, .int .i64 N, .slice co cn cc, .slice oo on oc], .int .i64 (A : Int)] W fun e w' => GpTw ⟨P, N, co, cn, cc, oo, on, oc, cs, os⟩ A a1 k1 W e w') := Lib.hid (fun W h => group_tw ⟨P, N, co, cn, cc, oo, on, oc, cs, os⟩ A a1 k1 W h HSR.out.2 HSR.out.1.few (by omega) (by omega) P1x.out)
    have e0 := HX.out.c0
    have e1 := HX.out.c1
    have e2 := HX.out.c2
    have e3 := HX.out.c3
    go_wp2_with fail
    (with_reducible refine (CX.out _ HX.out.at_).mono ?_)
    rintro e w2 ⟨ha, q⟩
    have HX := Lib.hid (HX.out.keep q.out)
    clear q e0 e1 e2 e3 CX
    rcases ha with ⟨kw, hkw, rfl⟩ | ⟨P2, N2, co2, cn2, cc2, oo2, on2, oc2, cs2, os2, rfl, hat, hgg⟩
    · obtain ⟨b2, hb2⟩ : ∃ z, w2.heap.size = z := ⟨_, rfl⟩
      obtain ⟨w3, hw3⟩ : ∃ z, w2.alloc (.cells #[.int .i64 0, .int .i64 0, .slice none 0 0, .slice none 0 0] 25) = z := ⟨_, rfl⟩
      have q : Below w2.heap.size w2 w3 := by rw [← hw3]; exact (Below.refl _ w2).alloc (Nat.le_refl _) _
      have XZ : Hid (Fbox Fv.zero w w3 b2) := Lib.hid (by rw [← hw3]; exact fbox_in (F := Fv.zero) (Fv.zero_at _) hb2 HX.out.bw)
      have HX := Lib.hid (HX.out.keep q)
      have HWX := Lib.hid hw3
      have HBX := Lib.hid hb2
      have HAL : Hid (∀ W, Calls Try.prog 9 #[.agg #[.int .i64 0, .int .i64 0, .slice none 0 0, .slice none 0 0], .agg #[.int .i64 0, .int .i64 0, .slice none 0 0, .slice none 0 0]] W fun e w' => e = .returned (.bool true) ∧ Below W.heap.size W w') := Lib.hid (fun W => alikeForms_any Fv.zero Fv.zero W (Fv.zero_at W) (Fv.zero_at W) true ⟨fun _ => same_zero, fun _ => rfl⟩)
      clear hw3 hb2 q
      rcases hkw with rfl | rfl
      · go_upto_region 6 with fail
        rw [HWX.out]
        try rw [HBX.out]
        clear HWX HBX
        have e0 : w3.cell? ⟨b2, 0, none⟩ = some (.int .i64 0) := XZ.out.c0
        have e1 : w3.cell? ⟨b2, 1, none⟩ = some (.int .i64 0) := XZ.out.c1
        have e2 : w3.cell? ⟨b2, 2, none⟩ = some (.slice none 0 0) := XZ.out.c2
        have e3 : w3.cell? ⟨b2, 3, none⟩ = some (.slice none 0 0) := XZ.out.c3
        go_wp2_with fail
        (with_reducible refine (HAL.out _).mono ?_)
        rintro e w5 ⟨rfl, q⟩
        have HX := Lib.hid (HX.out.keep q)
        clear q e0 e1 e2 e3 HAL XZ
        go_wp2_with fail
        (with_reducible refine (HAW.out _).mono ?_)
        rintro e wz ⟨rfl, qz⟩
        have HZ := Lib.hid (HX.out.bw.trans (qz.mono HX.out.bw.size))
        clear qz
        go_wp2
        go_returns
        exact ⟨rfl, HZ.out⟩
      · go_upto_region 6 with fail
        rw [HWX.out]
        try rw [HBX.out]
        clear HWX HBX
        have e0 : w3.cell? ⟨b2, 0, none⟩ = some (.int .i64 0) := XZ.out.c0
        have e1 : w3.cell? ⟨b2, 1, none⟩ = some (.int .i64 0) := XZ.out.c1
        have e2 : w3.cell? ⟨b2, 2, none⟩ = some (.slice none 0 0) := XZ.out.c2
        have e3 : w3.cell? ⟨b2, 3, none⟩ = some (.slice none 0 0) := XZ.out.c3
        go_wp2_with fail
        (with_reducible refine (HAL.out _).mono ?_)
        rintro e w5 ⟨rfl, q⟩
        have HX := Lib.hid (HX.out.keep q)
        clear q e0 e1 e2 e3 HAL XZ
        go_wp2_with fail
        (with_reducible refine (HAW.out _).mono ?_)
        rintro e wz ⟨rfl, qz⟩
        have HZ := Lib.hid (HX.out.bw.trans (qz.mono HX.out.bw.size))
        clear qz
        go_wp2
        go_returns
        exact ⟨rfl, HZ.out⟩
    · have HG1 := hgg
      have HGA := hat
      have HGM := Lib.hid (gpg_mid HG1.out P1x.out HSR.out.1 HLO.out HGA.out)
      have HGF : Hid (∀ x, gr ⟨P2, N2, co2, cn2, cc2, oo2, on2, oc2, cs2, os2⟩ x = colU (many (gr ⟨P, N, co, cn, cc, oo, on, oc, cs, os⟩) (x * (A : Int)) A)) := Lib.hid (gp_facts HG1.out P1x.out A1 HLC.out).2.1
      have CU : Hid (∀ W (y : Int), Fv.At ⟨P, N, co, cn, cc, oo, on, oc, cs, os⟩ W → -4611686018427387904 ≤ y → y ≤ 4611686018427387904 → Calls Try.prog 10 #[.agg #[.int .i64 P, .int .i64 N, .slice co cn cc, .slice oo on oc], .int .i64 y, .int .i64 (A : Int)] W fun e w' => ∃ (ao : Option Addr) (n c : Nat) (L : List Sp) (ok : Bool), e = .returned (.tuple #[.slice ao n c, .bool ok]) ∧ Hid (SpAt w' ao n c L) ∧ Hid (Below W.heap.size W w') ∧ Hid (ok = true → (∀ i : Nat, i < A → Told (y + (i : Int)) (gr ⟨P, N, co, cn, cc, oo, on, oc, cs, os⟩ (y + (i : Int)))) ∧ L = colU (many (gr ⟨P, N, co, cn, cc, oo, on, oc, cs, os⟩) y A))) := Lib.hid (fun W y h h1 h2 => unionF_any ⟨P, N, co, cn, cc, oo, on, oc, cs, os⟩ y A W h HSR.out.2 HSR.out.1 A2 h1 h2)
      have CV : Hid (∀ W (i : Int) ao n c L, Fv.At ⟨P2, N2, co2, cn2, cc2, oo2, on2, oc2, cs2, os2⟩ W → Told i (gr ⟨P2, N2, co2, cn2, cc2, oo2, on2, oc2, cs2, os2⟩ i) → L = gr ⟨P2, N2, co2, cn2, cc2, oo2, on2, oc2, cs2, os2⟩ i → SpAt W ao n c L → Calls Try.prog 11 #[.agg #[.int .i64 P2, .int .i64 N2, .slice co2 cn2 cc2, .slice oo2 on2 oc2], .int .i64 i, .slice ao n c] W fun e w' => e = .returned (.bool true) ∧ Below W.heap.size W w') := Lib.hid (fun W i ao n c L h ht hl hs => gives_any ⟨P2, N2, co2, cn2, cc2, oo2, on2, oc2, cs2, os2⟩ i ao n c L W h HGM.out.2.1 HGM.out.1 HGM.out.2.2 ht hl hs)
      have HUG : Hid (∀ y, (∀ i : Nat, i < A → Told (y + (i : Int)) (gr ⟨P, N, co, cn, cc, oo, on, oc, cs, os⟩ (y + (i : Int)))) → Good (colU (many (gr ⟨P, N, co, cn, cc, oo, on, oc, cs, os⟩) y A))) := Lib.hid (fun y h => (un_good HSR.out.2 (HSR.out.2.okm HSR.out.1.mid) HLC.out y A h).1)
      clear hgg hat HG1
      obtain ⟨b2, hb2⟩ : ∃ z, w2.heap.size = z := ⟨_, rfl⟩
      obtain ⟨w3, hw3⟩ : ∃ z, w2.alloc (.cells #[.int .i64 P2, .int .i64 N2, .slice co2 cn2 cc2, .slice oo2 on2 oc2] 25) = z := ⟨_, rfl⟩
      have HT : Hid (Two w w3 b b2 ⟨P, N, co, cn, cc, oo, on, oc, cs, os⟩ ⟨P2, N2, co2, cn2, cc2, oo2, on2, oc2, cs2, os2⟩) := Lib.hid (by rw [← hw3]; exact ⟨HX.out.keep ((Below.refl _ w2).alloc (Nat.le_refl _) _), fbox_in HGA.out hb2 HX.out.bw⟩)
      have HWX := Lib.hid hw3
      have HBX := Lib.hid hb2
      clear hw3 hb2 HX HGA
      go_upto_region 7 with fail
      rw [HWX.out]
      try rw [HBX.out]
      clear HWX HBX
      obtain ⟨J, hJ, J1, J2⟩ : ∃ J : Int, I.tmod 8 = J ∧ -8 ≤ J ∧ J ≤ 8 := ⟨_, rfl, by have := Int.lt_tmod_of_pos I (show (0 : Int) < 8 by decide); omega, by have := Int.tmod_lt_of_pos I (show (0 : Int) < 8 by decide); omega⟩
      obtain ⟨h, hh⟩ : ∃ z, w3.heap.size = z := ⟨_, rfl⟩
      obtain ⟨w4, hw4⟩ : ∃ z, w3.alloc (.cells #[.int .i64 I, .int .i64 0, .int .i64 (-1), .int .i64 J] 3) = z := ⟨_, rfl⟩
      have q4 : Below w3.heap.size w3 w4 := by rw [← hw4]; exact (Below.refl _ w3).alloc (Nat.le_refl _) _
      have HT := Lib.hid (HT.out.keep q4)
      have HV : Hid (w4.heap[h]? = some (.cells #[.int .i64 I, .int .i64 0, .int .i64 (-1), .int .i64 J] 3 (0, 0))) := Lib.hid (by rw [← hw4]; exact heap_at hh)
      have HWX := Lib.hid hw4
      have HBX := Lib.hid hh
      have HJX := Lib.hid hJ
      clear hw4 hh q4 hJ
      go_upto_region 8 with fail
      rw [HJX.out]
      try rw [HWX.out]
      try rw [HBX.out]
      clear HWX HBX HJX
      go_loopw [12, 13, 14, 53] (fun s12 s13 s14 ii wr => ∃ k : Nat, k ≤ 4 ∧ ii = .int .i64 k ∧ Hid (Two w wr b b2 ⟨P, N, co, cn, cc, oo, on, oc, cs, os⟩ ⟨P2, N2, co2, cn2, cc2, oo2, on2, oc2, cs2, os2⟩) ∧ Hid (wr.heap[h]? = some (.cells #[.int .i64 I, .int .i64 0, .int .i64 (-1), .int .i64 J] 3 (0, 0)))) (fun s12 s13 s14 ii _ => 4 - (intOf ii).toNat)
      case atStart => exact ⟨0, by omega, rfl, HT, HV⟩
      case round =>
        clear HT HV
        obtain ⟨k, k4, rfl, HT, HV⟩ := hrel
        by_cases kl : k < 4
        · obtain ⟨X, xc, x1, x2⟩ : ∃ X : Int, wr.cell? ⟨h, k, none⟩ = some (.int .i64 X) ∧ -16777216 ≤ X ∧ X ≤ 16777216 := by
            have : k = 0 ∨ k = 1 ∨ k = 2 ∨ k = 3 := by omega
            rcases this with rfl | rfl | rfl | rfl
            · exact ⟨_, cell_block HV.out 0, by omega, by omega⟩
            · exact ⟨_, cell_block HV.out 1, by omega, by omega⟩
            · exact ⟨_, cell_block HV.out 2, by omega, by omega⟩
            · exact ⟨_, cell_block HV.out 3, by omega, by omega⟩
          have k1' : (k : Int) < 4 := by omega
          have xa1 : -1677721600 ≤ X * (A : Int) := by
            have h1 : (-16777216) * (A : Int) ≤ X * (A : Int) := Int.mul_le_mul_of_nonneg_right x1 (by omega)
            omega
          have xa2 : X * (A : Int) ≤ 1677721600 := by
            have h1 : X * (A : Int) ≤ 16777216 * (A : Int) := Int.mul_le_mul_of_nonneg_right x2 (by omega)
            omega
          have a0 := HT.out.a.c0
          have a1 := HT.out.a.c1
          have a2 := HT.out.a.c2
          have a3 := HT.out.a.c3
          go_wp2_with fail
          (with_reducible refine (CU.out _ _ HT.out.a.at_ (by omega) (by omega)).mono ?_)
          rintro e u1 ⟨ao, an, ac, L, ok, rfl, hs, q, hok⟩
          have HT := Lib.hid (HT.out.keep q.out)
          have HV := Lib.hid (heap_keep HV.out q.out)
          have HS := hs
          have HK := hok
          clear q a0 a1 a2 a3 xc hs hok
          cases ok
          · clear HS HK
            go_wp2_with fail
            go_roundw
            case rel => exact ⟨k + 1, by omega, by go_num, HT, HV⟩
            case measure => simp [intOf]; omega
          · have HTO := Lib.hid (HK.out rfl)
            have HLE : Hid (L = gr ⟨P2, N2, co2, cn2, cc2, oo2, on2, oc2, cs2, os2⟩ X) := Lib.hid (by rw [HGF.out X]; exact HTO.out.2)
            have HTX : Hid (Told X (gr ⟨P2, N2, co2, cn2, cc2, oo2, on2, oc2, cs2, os2⟩ X)) := Lib.hid ⟨⟨by omega, by omega⟩, by rw [HGF.out X]; exact fit_good (HUG.out _ HTO.out.1)⟩
            clear HTO HK
            have a0 := HT.out.b.c0
            have a1 := HT.out.b.c1
            have a2 := HT.out.b.c2
            have a3 := HT.out.b.c3
            go_wp2_with fail
            (with_reducible refine (CV.out _ _ _ _ _ _ HT.out.b.at_ HTX.out HLE.out HS.out).mono ?_)
            rintro e u2 ⟨rfl, q⟩
            have HT := Lib.hid (HT.out.keep q)
            have HV := Lib.hid (heap_keep HV.out q)
            clear q a0 a1 a2 a3 HS HLE HTX
            go_wp2_with fail
            go_roundw
            case rel => exact ⟨k + 1, by omega, by go_num, HT, HV⟩
            case measure => simp [intOf]; omega
        · obtain rfl : k = 4 := by omega
          have HX := Lib.hid HT.out.a
          clear HV HT
          go_wp2_with fail
          (with_reducible refine (HAW.out _).mono ?_)
          rintro e wz ⟨rfl, qz⟩
          have HZ := Lib.hid (HX.out.bw.trans (qz.mono HX.out.bw.size))
          clear qz
          go_wp2
          go_returns
          exact ⟨rfl, HZ.out⟩
end Go.Proofs.Ytmjapbjjfhmohaa
