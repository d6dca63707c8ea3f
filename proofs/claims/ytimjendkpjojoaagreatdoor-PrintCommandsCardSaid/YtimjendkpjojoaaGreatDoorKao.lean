/- M8 in one. -/
import Derived.Test.YtimjendkpjojoaaGreatDoorKan
import Derived.Deep.AppendLies
import Derived.Deep.RegionLaw
namespace Go.Proofs.YtimjendkpjojoaaGreatDoor
set_option linter.unusedVariables false
set_option linter.unusedSimpArgs false
open Go.ChangeShapes Go.WideShapes Go.ChangeAt Go.RowKit

set_option maxRecDepth 20000 in
set_option maxHeartbeats 4000000 in
theorem cmd_any (w : World) (ao : Option Addr) (n c : Nat) (l : List Lx.Tk) (hA : TkAt w ao n c l) (hB : Lx.TkB l) (hT : Tabn w) (hW : Tabw w) :
    Calls Tryz.prog 14 #[.slice ao n c] w fun e w' => ∃ (vn vm : Value) (z : Hv), e = .returned (.tuple #[.agg (cmC (Lx.cmE l).1 vn vm z), .int .i64 (Lx.cmE l).2.1, .int .i64 (Lx.cmE l).2.2]) ∧ Hid (Below w.heap.size w w') ∧ Hid (CmAt (only (frB w.heap.size) w') (Lx.cmE l).1 vn vm z) := by
  obtain ⟨b, hb⟩ : ∃ z, w.heap.size = z := ⟨_, rfl⟩
  obtain ⟨w1, hw1⟩ : ∃ z, (w.alloc (.cells zerC 42)).alloc (.cells #[.slice ao n c, .int .i64 0, .int .i64 0, .int .i64 0] 64) = z := ⟨_, rfl⟩
  have KA : Below w.heap.size w w1 := by rw [← hw1]; exact ((Below.refl _ w).alloc (Nat.le_refl _) _).alloc (by simp) _
  have HRB : Hid (w1.heap[b]? = some (.cells zerC 42 (0, 0))) := Lib.hid (by rw [← hw1, ← hb, al_old _ _ (by simp), al_new])
  have HR : Hid (Rd w w1 (b + 1) ao n c l ⟨0, 0, 0⟩) := Lib.hid (by
    refine ⟨KA, by omega, ?_, hA, Nat.zero_le _⟩
    rw [← hw1, ← hb]
    have := al_new (w.alloc (.cells zerC 42)) (.cells #[.slice ao n c, .int .i64 0, .int .i64 0, .int .i64 0] 64)
    simpa using this)
  have HLO : Hid (w.heap.size = b) := Lib.hid hb
  have HN := Lib.hid (pname_any w w1 (b + 1) ao n c l ⟨0, 0, 0⟩ HR.out)
  have HPT : Hid ((Lx.name l ⟨0, 0, 0⟩).2.parts = 0) := Lib.hid (Lx.name_parts l _)
  have HCM : Hid (Lx.cmE l = match Lx.shape (Lx.name l ⟨0, 0, 0⟩).1 with
    | none => (Lx.noCm, 0, 110)
    | some sh => if (Lx.name l ⟨0, 0, 0⟩).2.wrong ≠ 0 then (Lx.noCm, 0, 110) else Lx.told l Lx.noCm (sh.foldl (Lx.stepC l) (⟨(Lx.name l ⟨0, 0, 0⟩).1, [], [], ⟨0, 0, false, false⟩, Lx.leaf []⟩, (Lx.name l ⟨0, 0, 0⟩).2))) := Lib.hid rfl
  have HTB := Lib.hid hB
  have HTT := Lib.hid hT
  have HTW := Lib.hid hW
  obtain ⟨⟨wd, s1⟩, hz⟩ : ∃ z, Lx.name l ⟨0, 0, 0⟩ = z := ⟨_, rfl⟩
  rw [hz] at HN HCM HPT
  dsimp only at HN HCM HPT
  obtain ⟨bd, hbd⟩ : ∃ z : ByteArray, ⟨wd.toArray⟩ = z := ⟨_, rfl⟩
  have HBD := Lib.hid hbd
  have HSH := Lib.hid (fun W => shape_any ⟨wd.toArray⟩ W)
  rw [show (⟨wd.toArray⟩ : ByteArray).data.toList = wd by simp] at HSH
  rw [hbd] at HN HSH
  have HW1 := Lib.hid hw1
  clear KA hA hB hT hW hz hbd hw1 hb
  have DRF : Hid (∀ (W : World), W.heap[b]? = some (.cells zerC 42 (0, 0)) → W.cell? ⟨b, 0, none⟩ = some (.string ⟨#[]⟩) ∧ W.cell? ⟨b, 1, none⟩ = some (.slice none 0 0) ∧ W.cell? ⟨b, 2, none⟩ = some (.slice none 0 0) ∧ W.cell? ⟨b, 3, none⟩ = some (.int .i64 0) ∧ W.cell? ⟨b, 4, none⟩ = some (.int .i64 0) ∧ W.cell? ⟨b, 5, none⟩ = some (.bool false) ∧ W.cell? ⟨b, 6, none⟩ = some (.bool false) ∧ W.cell? ⟨b, 7, none⟩ = some (.int .u8 0) ∧ W.cell? ⟨b, 8, none⟩ = some (.string ⟨#[]⟩) ∧ W.cell? ⟨b, 9, none⟩ = some (.slice none 0 0) ∧ W.cell? ⟨b, 10, none⟩ = some (.slice none 0 0)) := Lib.hid (fun W h => ⟨cell_blk h 0, cell_blk h 1, cell_blk h 2, cell_blk h 3, cell_blk h 4, cell_blk h 5, cell_blk h 6, cell_blk h 7, cell_blk h 8, cell_blk h 9, cell_blk h 10⟩)
  go_enter Tryz.func14, Tryz.ntmps14
  go_upto_region 2 with fail
  have hZ := HW1.out
  unfold zerC at hZ
  rw [hZ, HLO.out]
  clear hZ HW1
  go_wp2_with fail
  (with_reducible refine HN.out.mono ?_)
  rintro e w2 ⟨rfl, HR2, HG2⟩
  have HRB := Lib.hid (blk_stay HRB.out HG2.out (by omega))
  clear HN HR HG2
  obtain ⟨w3, hw3⟩ : ∃ z, w2.alloc (.cells (cmC ⟨wd, [], [], ⟨0, 0, false, false⟩, Lx.leaf []⟩ (.slice none 0 0) (.slice none 0 0) ⟨⟨0, ⟨#[]⟩, [], 0⟩, none, 0, 0, none, 0⟩) 42) = z := ⟨_, rfl⟩
  obtain ⟨cb, hcb⟩ : ∃ z, w2.heap.size = z := ⟨_, rfl⟩
  have KA := Lib.hid (show Below w2.heap.size w2 w3 by rw [← hw3]; exact (Below.refl _ w2).alloc (Nat.le_refl _) _)
  have HCB : Hid (w3.heap[cb]? = some (.cells (cmC ⟨wd, [], [], ⟨0, 0, false, false⟩, Lx.leaf []⟩ (.slice none 0 0) (.slice none 0 0) ⟨⟨0, ⟨#[]⟩, [], 0⟩, none, 0, 0, none, 0⟩) 42 (0, 0))) := Lib.hid (by rw [← hw3, ← hcb, al_new])
  have HCL : Hid (b + 1 < cb) := Lib.hid (by have := HR2.out.lt; omega)
  have HRB := Lib.hid ((KA.out.block b (Array.getElem?_eq_some_iff.1 HRB.out).1).trans HRB.out)
  have HR3 := Lib.hid (HR2.out.keep KA.out)
  have HSZ : Hid (w3.heap.size = cb + 1) := Lib.hid (by rw [← hw3, ← hcb]; simp)
  unfold cmC strV at hw3
  dsimp only at hw3
  rw [HBD.out] at hw3
  have HW3 := Lib.hid hw3
  have HC2 := Lib.hid hcb
  clear hw3 hcb
  go_upto_region 3 with fail
  rw [HW3.out, HC2.out]
  have c0 : w3.cell? ⟨cb, 0, none⟩ = some (.string bd) := by rw [← HBD.out]; exact cell_blk HCB.out 0
  clear HW3 HC2 KA
  go_wp2_with fail
  (with_reducible refine (HSH.out w3).mono ?_)
  rintro e w4 ⟨rfl, rfl⟩
  clear HSH c0
  have c3 := HR3.out.cells.2.2.2
  cases hsh : Lx.shape wd with
  | none =>
    rw [hsh] at HCM
    dsimp only at HCM
    unfold shV
    by_cases hw : s1.wrong = 0
    · rw [hw] at c3
      have HE : Hid (Lx.cmE l = (Lx.noCm, 0, 110)) := Lib.hid (HCM.out)
      obtain ⟨d0, d1, d2, d3, d4, d5, d6, d7, d8, d9, d10⟩ := DRF.out w3 HRB.out
      have f0 := blk_free HRB.out 0
      have f1 := blk_free HRB.out 1
      have f2 := blk_free HRB.out 2
      have f3 := blk_free HRB.out 3
      have f4 := blk_free HRB.out 4
      have f5 := blk_free HRB.out 5
      have f6 := blk_free HRB.out 6
      have f7 := blk_free HRB.out 7
      have f8 := blk_free HRB.out 8
      have f9 := blk_free HRB.out 9
      have f10 := blk_free HRB.out 10
      clear hw hsh HCM
      go_wp2
      obtain ⟨wf, hwf⟩ : ∃ z, put11 w3 b (.string ⟨#[]⟩) (.slice none 0 0) (.slice none 0 0) (.int .i64 0) (.int .i64 0) (.bool false) (.bool false) (.int .u8 0) (.string ⟨#[]⟩) (.slice none 0 0) (.slice none 0 0) = z := ⟨_, rfl⟩
      have hwf' := hwf
      unfold put11 at hwf'
      rw [hwf']
      have XF := put11_on HRB.out (.string ⟨#[]⟩) (.slice none 0 0) (.slice none 0 0) (.int .i64 0) (.int .i64 0) (.bool false) (.bool false) (.int .u8 0) (.string ⟨#[]⟩) (.slice none 0 0) (.slice none 0 0)
      have g := put11_grown w3 b (.string ⟨#[]⟩) (.slice none 0 0) (.slice none 0 0) (.int .i64 0) (.int .i64 0) (.bool false) (.bool false) (.int .u8 0) (.string ⟨#[]⟩) (.slice none 0 0) (.slice none 0 0)
      rw [hwf] at g XF
      have r0 := cell_blk XF 0
      have r1 := cell_blk XF 1
      have r2 := cell_blk XF 2
      have r3 := cell_blk XF 3
      have r4 := cell_blk XF 4
      have r5 := cell_blk XF 5
      have r6 := cell_blk XF 6
      have r7 := cell_blk XF 7
      have r8 := cell_blk XF 8
      have r9 := cell_blk XF 9
      have r10 := cell_blk XF 10
      refine bodyPost_ret (v := .tuple #[.agg zerC, .int .i64 0, .int .i64 110]) (by unfold zerC; simp [results, Tryz.results14, go_sem, r0, r1, r2, r3, r4, r5, r6, r7, r8, r9, r10]) rfl ⟨.slice none 0 0, .slice none 0 0, ⟨⟨0, ⟨#[]⟩, [], 0⟩, none, 0, 0, none, 0⟩, by rw [HE.out]; rfl, Lib.hid ?_, Lib.hid ?_⟩
      · exact mbelow_grown HR3.out.bw g (fun q e => by cases e; have := HLO.out; omega) HR3.out.bw.size
      · rw [HE.out]; exact no_cm (only (frB w.heap.size) wf)
    · have h30 : (s1.wrong != 0) = true := by simpa using hw
      obtain ⟨xx, hxx⟩ : ∃ z, s1.wrong = z := ⟨_, rfl⟩
      rw [hxx] at c3 h30
      have HE : Hid (Lx.cmE l = (Lx.noCm, 0, 110)) := Lib.hid (HCM.out)
      obtain ⟨d0, d1, d2, d3, d4, d5, d6, d7, d8, d9, d10⟩ := DRF.out w3 HRB.out
      have f0 := blk_free HRB.out 0
      have f1 := blk_free HRB.out 1
      have f2 := blk_free HRB.out 2
      have f3 := blk_free HRB.out 3
      have f4 := blk_free HRB.out 4
      have f5 := blk_free HRB.out 5
      have f6 := blk_free HRB.out 6
      have f7 := blk_free HRB.out 7
      have f8 := blk_free HRB.out 8
      have f9 := blk_free HRB.out 9
      have f10 := blk_free HRB.out 10
      clear hw hsh hxx HCM
      go_wp2
      obtain ⟨wf, hwf⟩ : ∃ z, put11 w3 b (.string ⟨#[]⟩) (.slice none 0 0) (.slice none 0 0) (.int .i64 0) (.int .i64 0) (.bool false) (.bool false) (.int .u8 0) (.string ⟨#[]⟩) (.slice none 0 0) (.slice none 0 0) = z := ⟨_, rfl⟩
      have hwf' := hwf
      unfold put11 at hwf'
      rw [hwf']
      have XF := put11_on HRB.out (.string ⟨#[]⟩) (.slice none 0 0) (.slice none 0 0) (.int .i64 0) (.int .i64 0) (.bool false) (.bool false) (.int .u8 0) (.string ⟨#[]⟩) (.slice none 0 0) (.slice none 0 0)
      have g := put11_grown w3 b (.string ⟨#[]⟩) (.slice none 0 0) (.slice none 0 0) (.int .i64 0) (.int .i64 0) (.bool false) (.bool false) (.int .u8 0) (.string ⟨#[]⟩) (.slice none 0 0) (.slice none 0 0)
      rw [hwf] at g XF
      have r0 := cell_blk XF 0
      have r1 := cell_blk XF 1
      have r2 := cell_blk XF 2
      have r3 := cell_blk XF 3
      have r4 := cell_blk XF 4
      have r5 := cell_blk XF 5
      have r6 := cell_blk XF 6
      have r7 := cell_blk XF 7
      have r8 := cell_blk XF 8
      have r9 := cell_blk XF 9
      have r10 := cell_blk XF 10
      refine bodyPost_ret (v := .tuple #[.agg zerC, .int .i64 0, .int .i64 110]) (by unfold zerC; simp [results, Tryz.results14, go_sem, r0, r1, r2, r3, r4, r5, r6, r7, r8, r9, r10]) rfl ⟨.slice none 0 0, .slice none 0 0, ⟨⟨0, ⟨#[]⟩, [], 0⟩, none, 0, 0, none, 0⟩, by rw [HE.out]; rfl, Lib.hid ?_, Lib.hid ?_⟩
      · exact mbelow_grown HR3.out.bw g (fun q e => by cases e; have := HLO.out; omega) HR3.out.bw.size
      · rw [HE.out]; exact no_cm (only (frB w.heap.size) wf)
  | some shl =>
    rw [hsh] at HCM
    dsimp only at HCM
    unfold shV
    by_cases hw : s1.wrong = 0
    · rw [hw] at c3
      have HOK := Lib.hid (Lx.shape_ok hsh)
      rw [if_neg (by simp [hw])] at HCM
      obtain ⟨R, hR⟩ : ∃ R, shl.foldl (Lx.stepC l) (⟨wd, [], [], ⟨0, 0, false, false⟩, Lx.leaf []⟩, s1) = R := ⟨_, rfl⟩
      rw [hR] at HCM
      have HF : Hid ((shl.drop 0).foldl (Lx.stepC l) (⟨wd, [], [], ⟨0, 0, false, false⟩, Lx.leaf []⟩, s1) = R) := Lib.hid hR
      obtain ⟨sb, hsb⟩ : ∃ z : ByteArray, ⟨shl.toArray⟩ = z := ⟨_, rfl⟩
      have HSB : Hid (sb.size = shl.length) := Lib.hid (by rw [← hsb]; rfl)
      have HLT : Hid (∀ i (h : i < sb.size) (h' : i < shl.length), (sb[i]'h) = shl[i]) := Lib.hid (by subst hsb; intro i h h'; rfl)
      obtain ⟨w5, hw5⟩ : ∃ z, w3.iter sb 0 = z := ⟨_, rfl⟩
      have KA : Below w3.heap.size w3 w5 := by rw [← hw5]; exact (Below.refl _ w3).alloc (Nat.le_refl _) _
      have HIT : Hid (w5.heap[cb + 1]? = some (.stringIter sb 0)) := Lib.hid (by rw [← hw5, ← HSZ.out]; exact World.iter_heap w3 sb 0)
      have HPI0 : Hid (Lx.PI s1) := Lib.hid ⟨by rw [HPT.out]; omega, fun _ => by rw [HPT.out]; omega⟩
      have HI : Hid (CmI w w5 b (b + 1) cb (cb + 1) ao n c l s1 sb 0 ⟨wd, [], [], ⟨0, 0, false, false⟩, Lx.leaf []⟩ (.slice none 0 0) (.slice none 0 0) ⟨⟨0, ⟨#[]⟩, [], 0⟩, none, 0, 0, none, 0⟩) := Lib.hid
        ⟨HR3.out.keep KA, ⟨HLO.out, rfl, HCL.out, by omega⟩, (KA.block b (Array.getElem?_eq_some_iff.1 HRB.out).1).trans HRB.out, (KA.block cb (Array.getElem?_eq_some_iff.1 HCB.out).1).trans HCB.out, HIT.out, World.ownsRow_nil _ _ _ _, World.ownsRow_nil _ _ _ _, (fun y hy => by cases hy), ⟨Nat.le_refl _, Nat.le_refl _⟩, ⟨HPI0.out, .inl HPT.out⟩, (ex_leaf' _ [] (Nat.zero_le _)).more (by omega)⟩
      have HW5 := Lib.hid hw5
      have hc := hsb
      clear hw5 hsb hR KA HIT hsh
      dsimp only
      rw [hc]
      clear hc
      go_upto_region 7 with fail
      rw [HW5.out, HSZ.out]
      clear HW5 c3 hw HPI0
      go_loopg [10] shl.length (fun k s10 wr => ∃ (pos : Nat) (cm : Lx.Cm) (st : Lx.St) (vn vm : Value) (z : Hv), k + pos = shl.length ∧ Hid (CmI w wr b (b + 1) cb (cb + 1) ao n c l st sb pos cm vn vm z) ∧ Hid ((shl.drop pos).foldl (Lx.stepC l) (cm, st) = R))
      case atStart => exact ⟨0, _, _, _, _, _, rfl, HI, HF⟩
      case round =>
        clear HI HF HR3 HRB HCB HR2 HPT HSZ
        obtain ⟨pos, cm, st, vn, vm, z, hk, HI, HF⟩ := hrel
        by_cases hp : pos < shl.length
        · have hp2 : pos < sb.size := by rw [HSB.out]; exact hp
          have hL := HLT.out pos hp2 hp
          have hOk := HOK.out.2 pos hp
          have HL4 := HOK.out.1
          have HF2 : Hid ((shl.drop (pos + 1)).foldl (Lx.stepC l) (Lx.stepC l (cm, st) shl[pos]) = R) := Lib.hid (by rw [← HF.out, List.drop_eq_getElem_cons hp]; rfl)
          have HPP : Hid (st.parts = 0) := Lib.hid (by rcases HI.out.pi.2 with e | e; exact e; omega)
          have HI2 := Lib.hid (HI.out.turn hp2 HPP.out)
          have hnx : ∀ ty, (Instr.next (.pointer (some ⟨cb + 1, 0, none⟩)) true ty).run Tryz.prog wr = .ok (.tuple #[.bool true, .int .i64 pos, .int .i32 (sb[pos]'hp2).toNat]) (nx wr (cb + 1) sb (pos + 1)) := fun ty => run_next_at HI.out.it ty hp2 (by
            rw [hL]
            rcases hOk with (e | e | e | e) | ⟨e, _⟩ <;> rw [e] <;> decide)
          obtain ⟨w6, hw6⟩ : ∃ z, nx wr (cb + 1) sb (pos + 1) = z := ⟨_, rfl⟩
          rw [hw6] at hnx HI2
          rw [hL] at hnx
          have HFEW : cm.names.length ≤ 100 ∧ cm.nums.length ≤ 100 := by have := HI.out.few; omega
          have HFEW2 := Lib.hid HI.out.few
          obtain ⟨f1, f2'⟩ := HFEW
          clear hw6 hL HI HF
          rcases hOk with (e | e | e | e) | ⟨e, hend⟩
          · rw [e] at hnx HF2
            have hnx : ∀ ty, (Instr.next (.pointer (some ⟨cb + 1, 0, none⟩)) true ty).run Tryz.prog wr = .ok (.tuple #[.bool true, .int .i64 pos, .int .i32 110]) w6 := hnx
            clear e
            have HD := Lib.hid (HI2.out.keep (Below.refl _ w6).drew)
            have HN := Lib.hid (pname_any w w6.drew (b + 1) ao n c l st HD.out.rd)
            have HPS : Hid (Lx.PI (Lx.name l st).2 ∧ ((Lx.name l st).2.parts = 0 ∨ pos + 1 = sb.size)) := Lib.hid ⟨HD.out.pi.1.on (Lx.name_on l st) (Lx.name_parts l st), .inl ((Lx.name_parts l st).trans HPP.out)⟩
            have HF3 : Hid ((shl.drop (pos + 1)).foldl (Lx.stepC l) ((⟨cm.word, cm.names ++ [(Lx.name l st).1], cm.nums, cm.rg, cm.ex⟩ : Lx.Cm), (Lx.name l st).2) = R) := HF2
            obtain ⟨⟨x, s2⟩, hz⟩ : ∃ z, Lx.name l st = z := ⟨_, rfl⟩
            rw [hz] at HN HPS HF3
            dsimp only at HN HPS HF3
            obtain ⟨xb, hxb⟩ : ∃ z : ByteArray, ⟨x.toArray⟩ = z := ⟨_, rfl⟩
            have HXV : Hid (Value.string xb = strV x) := Lib.hid (by rw [← hxb]; rfl)
            rw [hxb] at HN
            clear hxb
            obtain ⟨i1', hm0, hm1, hm2, hm3⟩ := info_parts' info9c
            have e2 : w6.cell? ⟨cb, 1, none⟩ = some vn := cell_blk HI2.out.box 1
            clear hz HF2
            go_upto_region 12 with fail
            clear hnx
            go_region_law (first
              | (go_simp; go_at_call 37; (with_reducible refine HN.out.mono ?_); rintro e w3 ⟨rfl, HR3, HG3⟩; have HI3 := Lib.hid (HD.out.step HR3.out HG3.out HPS.out); clear e2; have e2 : w3.cell? ⟨cb, 1, none⟩ = some vn := cell_blk HI3.out.box 1; have z3 := HI3.out.sz; have z4 := HI3.out.lt; have e3 : (w3.alloc (.cells #[.string xb] 9)).cell? ⟨cb, 1, none⟩ = some vn := cell_blk ((al_old _ _ z3.2).trans HI3.out.box) 1)
              | (refine step_append_lies _ rfl (.tmp 41) (.tmp 43) 38 rfl (cb + 1 + 1) 9 i1' _ 1 16 Tryz.underlying38 hm0 hm1 hm2 hm3 rfl (by decide) vn (cm.names).length (cm.names.map strV) rfl (HI3.out.nr.alloc _) _ 1 1 [.string xb] rfl rfl (World.news_of_block (al_new _ _)) (fun u hu => by simp at hu; subst hu; rfl) (by decide) (by unfold maxLen; omega) (by omega) (Nat.le_trans HI3.out.sz.1 (by simp)) _ rfl ?_; intro g cap w4 own gr hv hlt; have HO4 := Lib.hid own; have HG4 := Lib.hid gr; have HV4 := Lib.hid hv; have X4 := Lib.hid (HI3.out.box4 gr (fun q e => (HI3.out.nr.lt q e).1)); clear own gr hv hlt e2; have e2 : w4.cell? ⟨cb, 1, none⟩ = some vn := cell_blk X4.out 1; have f2 := blk_free X4.out 1))
            all_goals
              have HI5 := Lib.hid ((HI3.out.keep ((Below.refl _ w3).alloc (Nat.le_refl _) (.cells #[.string xb] 9))).name (w4 := w4) (v' := .slice (some ⟨g, 0, none⟩) (cm.names.length + 1) cap) (x := x) (by have := HO4.out; rw [HXV.out] at this; simpa using this) HG4.out (by rcases HV4.out with e | e; exact .inl e.symm; exact .inr (fun q e' => by have e3' : g = q := Option.some.inj e'; omega)) (by have := HFEW2.out; omega))
              obtain ⟨w5, hw5⟩ : ∃ x, w4.setCell ⟨cb, 1, none⟩ (.slice (some ⟨g, 0, none⟩) (cm.names.length + 1) cap) = x := ⟨_, rfl⟩
              rw [hw5] at HI5 ⊢
              clear hw5 HI3 HI2 HD HO4 HG4 X4 e2 f2 HR3 HG3 HN HV4
              go_wp2
              go_roundg (gk - 1)
              case measure => omega
              case rel => exact ⟨pos + 1, _, _, _, _, _, by omega, HI5, HF3⟩
          · rw [e] at hnx HF2
            have hnx : ∀ ty, (Instr.next (.pointer (some ⟨cb + 1, 0, none⟩)) true ty).run Tryz.prog wr = .ok (.tuple #[.bool true, .int .i64 pos, .int .i32 105]) w6 := hnx
            clear e
            have HD := Lib.hid (HI2.out.keep (Below.refl _ w6).drew)
            have HN := Lib.hid (pnumber_any w w6.drew (b + 1) ao n c l st HD.out.rd)
            have HPS : Hid (Lx.PI (Lx.number l st).2 ∧ ((Lx.number l st).2.parts = 0 ∨ pos + 1 = sb.size)) := Lib.hid ⟨HD.out.pi.1.on (Lx.number_on l st) (Lx.number_parts l st), .inl ((Lx.number_parts l st).trans HPP.out)⟩
            have HF3 : Hid ((shl.drop (pos + 1)).foldl (Lx.stepC l) ((⟨cm.word, cm.names, cm.nums ++ [(Lx.number l st).1], cm.rg, cm.ex⟩ : Lx.Cm), (Lx.number l st).2) = R) := HF2
            have HXB := Lib.hid (Lx.number_B HTB.out st)
            obtain ⟨⟨x, s2⟩, hz⟩ : ∃ z, Lx.number l st = z := ⟨_, rfl⟩
            rw [hz] at HN HPS HF3 HXB
            dsimp only at HN HPS HF3 HXB
            obtain ⟨i1', hm0, hm1, hm2, hm3⟩ := info_parts' info2'
            have e2 : w6.cell? ⟨cb, 2, none⟩ = some vm := cell_blk HI2.out.box 2
            clear hz HF2
            go_upto_region 14 with fail
            clear hnx
            go_region_law (first
              | (go_simp; go_at_call 38; (with_reducible refine HN.out.mono ?_); rintro e w3 ⟨rfl, HR3, HG3⟩; have HI3 := Lib.hid (HD.out.step HR3.out HG3.out HPS.out); clear e2; have e2 : w3.cell? ⟨cb, 2, none⟩ = some vm := cell_blk HI3.out.box 2; have z3 := HI3.out.sz; have z4 := HI3.out.lt; have e3 : (w3.alloc (.cells #[.int .i64 x] 2)).cell? ⟨cb, 2, none⟩ = some vm := cell_blk ((al_old _ _ z3.2).trans HI3.out.box) 2)
              | (refine step_append_lies _ rfl (.tmp 49) (.tmp 51) 22 rfl (cb + 1 + 1) 2 i1' _ 1 8 Tryz.underlying22 hm0 hm1 hm2 hm3 rfl (by decide) vm (cm.nums).length (cm.nums.map (Value.int .i64)) rfl (HI3.out.mr.alloc _) _ 1 1 [.int .i64 x] rfl rfl (World.news_of_block (al_new _ _)) (fun u hu => by simp at hu; subst hu; rfl) (by decide) (by unfold maxLen; omega) (by omega) (Nat.le_trans HI3.out.sz.1 (by simp)) _ rfl ?_; intro g cap w4 own gr hv hlt; have HO4 := Lib.hid own; have HG4 := Lib.hid gr; have HV4 := Lib.hid hv; have X4 := Lib.hid (HI3.out.box4 gr (fun q e => (HI3.out.mr.lt q e).1)); clear own gr hv hlt e2; have e2 : w4.cell? ⟨cb, 2, none⟩ = some vm := cell_blk X4.out 2; have f2 := blk_free X4.out 2))
            all_goals
              have HI5 := Lib.hid ((HI3.out.keep ((Below.refl _ w3).alloc (Nat.le_refl _) (.cells #[.int .i64 x] 2))).num (w4 := w4) (v' := .slice (some ⟨g, 0, none⟩) (cm.nums.length + 1) cap) (x := x) HXB.out (by have := HO4.out; simpa using this) HG4.out (by rcases HV4.out with e | e; exact .inl e.symm; exact .inr (fun q e' => by have e3' : g = q := Option.some.inj e'; omega)) (by have := HFEW2.out; omega))
              obtain ⟨w5, hw5⟩ : ∃ x, w4.setCell ⟨cb, 2, none⟩ (.slice (some ⟨g, 0, none⟩) (cm.nums.length + 1) cap) = x := ⟨_, rfl⟩
              rw [hw5] at HI5 ⊢
              clear hw5 HI3 HI2 HD HO4 HG4 X4 e2 f2 HR3 HG3 HN HV4
              go_wp2
              go_roundg (gk - 1)
              case measure => omega
              case rel => exact ⟨pos + 1, _, _, _, _, _, by omega, HI5, HF3⟩
          · rw [e] at hnx HF2
            have hnx : ∀ ty, (Instr.next (.pointer (some ⟨cb + 1, 0, none⟩)) true ty).run Tryz.prog wr = .ok (.tuple #[.bool true, .int .i64 pos, .int .i32 114]) w6 := hnx
            clear e
            have HN := Lib.hid (span_any w w6 (b + 1) ao n c l st HI2.out.rd)
            have HPS : Hid (Lx.PI (Lx.span l st).2 ∧ ((Lx.span l st).2.parts = 0 ∨ pos + 1 = sb.size)) := Lib.hid ⟨HI2.out.pi.1.on (Lx.span_on l st) (Lx.span_parts l st), .inl ((Lx.span_parts l st).trans HPP.out)⟩
            have HF3 : Hid ((shl.drop (pos + 1)).foldl (Lx.stepC l) ((⟨cm.word, cm.names, cm.nums, (Lx.span l st).1, cm.ex⟩ : Lx.Cm), (Lx.span l st).2) = R) := HF2
            obtain ⟨⟨⟨r1, r2, r3, r4⟩, s2⟩, hz⟩ : ∃ z, Lx.span l st = z := ⟨_, rfl⟩
            rw [hz] at HN HPS HF3
            unfold rv at HN
            dsimp only at HN HPS HF3
            clear hz HF2
            go_upto_region 18 with fail
            clear hnx
            go_wp2_with fail
            (with_reducible refine HN.out.mono ?_)
            rintro e w7 ⟨rfl, HR3, HG3⟩
            have HI3 := Lib.hid (HI2.out.step HR3.out HG3.out HPS.out)
            have d0 : w7.cell? ⟨cb, 3, none⟩ = some (.int .i64 cm.rg.low) := cell_blk HI3.out.box 3
            have d1 : w7.cell? ⟨cb, 4, none⟩ = some (.int .i64 cm.rg.high) := cell_blk HI3.out.box 4
            have d2 : w7.cell? ⟨cb, 5, none⟩ = some (.bool cm.rg.hl) := cell_blk HI3.out.box 5
            have d3 : w7.cell? ⟨cb, 6, none⟩ = some (.bool cm.rg.hh) := cell_blk HI3.out.box 6
            have g0 := blk_free HI3.out.box 3
            have g1 := blk_free HI3.out.box 4
            have g2 := blk_free HI3.out.box 5
            have g3 := blk_free HI3.out.box 6
            have HI5 := Lib.hid (HI3.out.range ⟨r1, r2, r3, r4⟩)
            clear HI3 HI2 HR3 HG3 HN
            go_wp2
            go_roundg (gk - 1)
            case measure => omega
            case rel => exact ⟨pos + 1, _, _, _, _, _, by omega, HI5, HF3⟩
          · rw [e] at hnx HF2
            have hnx : ∀ ty, (Instr.next (.pointer (some ⟨cb + 1, 0, none⟩)) true ty).run Tryz.prog wr = .ok (.tuple #[.bool true, .int .i64 pos, .int .i32 61]) w6 := hnx
            clear e
            have HN := Lib.hid (mark_any w w6 (b + 1) ao n c l st [61] HI2.out.rd)
            rw [show (⟨([61] : List UInt8).toArray⟩ : ByteArray) = Utf8.encode 61 by rfl] at HN
            have HPS : Hid (Lx.PI (Lx.mark l st [61]) ∧ ((Lx.mark l st [61]).parts = 0 ∨ pos + 1 = sb.size)) := Lib.hid ⟨HI2.out.pi.1.on (Lx.mark_on l st _) (Lx.mark_parts l st _), .inl ((Lx.mark_parts l st _).trans HPP.out)⟩
            have HF3 : Hid ((shl.drop (pos + 1)).foldl (Lx.stepC l) (cm, Lx.mark l st [61]) = R) := HF2
            obtain ⟨s2, hz⟩ : ∃ z, Lx.mark l st [61] = z := ⟨_, rfl⟩
            rw [hz] at HN HPS HF3
            clear hz HF2
            go_upto_region 10 with fail
            clear hnx
            go_wp2_with fail
            (with_reducible refine HN.out.mono ?_)
            rintro e w7 ⟨rfl, HR3, HG3⟩
            have HI5 := Lib.hid (HI2.out.step HR3.out HG3.out HPS.out)
            clear HI2 HR3 HG3 HN
            go_wp2
            go_roundg (gk - 1)
            case measure => omega
            case rel => exact ⟨pos + 1, _, _, _, _, _, by omega, HI5, HF3⟩
          · rw [e] at hnx HF2
            have hnx : ∀ ty, (Instr.next (.pointer (some ⟨cb + 1, 0, none⟩)) true ty).run Tryz.prog wr = .ok (.tuple #[.bool true, .int .i64 pos, .int .i32 101]) w6 := hnx
            clear e
            have HN := Lib.hid (part_any w (b + 1) ao n c l HTB.out HTT.out HTW.out 40 (by omega) w6 st HI2.out.rd (by have := HPP.out; omega))
            rw [show (41 : Int) - ((40 : Nat) : Int) = 1 by decide] at HN
            have HPS : Hid (Lx.PI (Lx.part l 40 st).2 ∧ ((Lx.part l 40 st).2.parts = 0 ∨ pos + 1 = sb.size)) := Lib.hid ⟨Lx.part_PI l 40 st (by have := HPP.out; omega), .inr (by rw [HSB.out]; exact hend)⟩
            have HF3 : Hid ((shl.drop (pos + 1)).foldl (Lx.stepC l) ((⟨cm.word, cm.names, cm.nums, cm.rg, (Lx.part l 40 st).1⟩ : Lx.Cm), (Lx.part l 40 st).2) = R) := HF2
            obtain ⟨⟨F, s2⟩, hz⟩ : ∃ z, Lx.part l 40 st = z := ⟨_, rfl⟩
            rw [hz] at HN HPS HF3
            dsimp only at HN HPS HF3
            clear hz HF2
            go_upto_region 16 with fail
            clear hnx
            go_wp2_with fail
            (with_reducible refine HN.out.mono ?_)
            rintro e w7 ⟨⟨⟨zo, znm, znu, zk⟩, zan, znn, znc, zaa, zac⟩, rfl, HR3, HG3, HX3⟩
            have HI3 := Lib.hid (HI2.out.step HR3.out HG3.out HPS.out)
            have d0 : w7.cell? ⟨cb, 7, none⟩ = some (.int .u8 z.p.op) := cell_blk HI3.out.box 7
            have d1 : w7.cell? ⟨cb, 8, none⟩ = some (.string z.p.nm) := cell_blk HI3.out.box 8
            have d2 : w7.cell? ⟨cb, 9, none⟩ = some (.slice z.an z.nn z.nc) := cell_blk HI3.out.box 9
            have d3 : w7.cell? ⟨cb, 10, none⟩ = some (.slice z.aa z.p.k z.ac) := cell_blk HI3.out.box 10
            have g0 := blk_free HI3.out.box 7
            have g1 := blk_free HI3.out.box 8
            have g2 := blk_free HI3.out.box 9
            have g3 := blk_free HI3.out.box 10
            have HI5 := Lib.hid (HI3.out.expr ⟨⟨zo, znm, znu, zk⟩, zan, znn, znc, zaa, zac⟩ F (B := w6.heap.size) HI2.out.sz.1 (fun q e => (HI2.out.nr.lt q e).2) (fun q e => (HI2.out.mr.lt q e).2) HX3.out)
            clear HI3 HI2 HR3 HG3 HN
            go_wp2
            go_roundg (gk - 1)
            case measure => omega
            case rel => exact ⟨pos + 1, _, _, _, _, _, by omega, HI5, HF3⟩
        · obtain rfl : pos = shl.length := by omega
          have hnx : ∀ ty, (Instr.next (.pointer (some ⟨cb + 1, 0, none⟩)) true ty).run Tryz.prog wr = .ok (.tuple #[.bool false]) wr := fun ty => run_next_off HI.out.it ty (by rw [HSB.out]; omega)
          have HRE : Hid (R = (cm, st)) := Lib.hid (by rw [← HF.out, List.drop_length]; rfl)
          have HNF := Lib.hid (failed_any w wr (b + 1) ao n c l st HI.out.rd)
          have hC := HCM.out
          rw [HRE.out] at hC
          unfold Lx.told at hC
          dsimp only at hC
          have HFP : Hid ((Lx.failed l st).parts = st.parts) := Lib.hid (by unfold Lx.failed; split <;> rfl)
          have HFO : Hid (Lx.PI (Lx.failed l st) ∧ ((Lx.failed l st).parts = 0 ∨ shl.length = sb.size)) := Lib.hid (by
            refine ⟨⟨by rw [HFP.out]; exact HI.out.pi.1.1, fun q => ?_⟩, .inr HSB.out.symm⟩
            rw [HFP.out]
            refine HI.out.pi.1.2 ?_
            unfold Lx.failed at q
            split at q
            · exact absurd (show (110 : Int) = 0 from q) (by decide)
            · exact q)
          obtain ⟨sf, hsf⟩ : ∃ z, Lx.failed l st = z := ⟨_, rfl⟩
          rw [hsf] at hC HNF HFO
          have hE2 := Lib.hid hC
          clear hC HF HRE HFP hsf
          go_upto_region 19 with fail
          clear hnx
          go_wp2_with fail
          (with_reducible refine HNF.out.mono ?_)
          rintro e w7 ⟨rfl, HR4, HG4⟩
          have HI := Lib.hid (HI.out.step HR4.out HG4.out HFO.out)
          clear HNF HG4 HFO
          obtain ⟨d0, d1, d2, d3, d4, d5, d6, d7, d8, d9, d10⟩ := DRF.out w7 HI.out.res
          have f0 := blk_free HI.out.res 0
          have f1 := blk_free HI.out.res 1
          have f2 := blk_free HI.out.res 2
          have f3 := blk_free HI.out.res 3
          have f4 := blk_free HI.out.res 4
          have f5 := blk_free HI.out.res 5
          have f6 := blk_free HI.out.res 6
          have f7 := blk_free HI.out.res 7
          have f8 := blk_free HI.out.res 8
          have f9 := blk_free HI.out.res 9
          have f10 := blk_free HI.out.res 10
          obtain ⟨_, c1, _, c3⟩ := HR4.out.cells
          by_cases hw : sf.wrong = 0
          · have HE : Hid (Lx.cmE l = (cm, -1, 0)) := Lib.hid (by rw [hE2.out, if_pos hw])
            rw [show decide (sf.wrong ≠ 0) = false by simp [hw]]
            obtain ⟨⟨a1, y1, rfl, _⟩, ⟨a2, y2, rfl, _⟩, _⟩ := HI.out.out (World.grownBy.refl w7 _)
            obtain ⟨wb, hwb⟩ : ∃ z : ByteArray, ⟨cm.word.toArray⟩ = z := ⟨_, rfl⟩
            have HWB := Lib.hid hwb
            have x0 : w7.cell? ⟨cb, 0, none⟩ = some (.string wb) := by rw [← hwb]; exact cell_blk HI.out.box 0
            have x1 : w7.cell? ⟨cb, 1, none⟩ = some (.slice a1 cm.names.length y1) := cell_blk HI.out.box 1
            have x2 : w7.cell? ⟨cb, 2, none⟩ = some (.slice a2 cm.nums.length y2) := cell_blk HI.out.box 2
            have x3 : w7.cell? ⟨cb, 3, none⟩ = some (.int .i64 cm.rg.low) := cell_blk HI.out.box 3
            have x4 : w7.cell? ⟨cb, 4, none⟩ = some (.int .i64 cm.rg.high) := cell_blk HI.out.box 4
            have x5 : w7.cell? ⟨cb, 5, none⟩ = some (.bool cm.rg.hl) := cell_blk HI.out.box 5
            have x6 : w7.cell? ⟨cb, 6, none⟩ = some (.bool cm.rg.hh) := cell_blk HI.out.box 6
            have x7 : w7.cell? ⟨cb, 7, none⟩ = some (.int .u8 z.p.op) := cell_blk HI.out.box 7
            have x8 : w7.cell? ⟨cb, 8, none⟩ = some (.string z.p.nm) := cell_blk HI.out.box 8
            have x9 : w7.cell? ⟨cb, 9, none⟩ = some (.slice z.an z.nn z.nc) := cell_blk HI.out.box 9
            have x10 : w7.cell? ⟨cb, 10, none⟩ = some (.slice z.aa z.p.k z.ac) := cell_blk HI.out.box 10
            clear c1 c3 hw hE2 hwb
            go_wp2
            obtain ⟨wf, hwf⟩ : ∃ zz, put11 w7 b (.string wb) (.slice a1 cm.names.length y1) (.slice a2 cm.nums.length y2) (.int .i64 cm.rg.low) (.int .i64 cm.rg.high) (.bool cm.rg.hl) (.bool cm.rg.hh) (.int .u8 z.p.op) (.string z.p.nm) (.slice z.an z.nn z.nc) (.slice z.aa z.p.k z.ac) = zz := ⟨_, rfl⟩
            have hwf' := hwf
            unfold put11 at hwf'
            rw [hwf']
            have XF := put11_on HI.out.res (.string wb) (.slice a1 cm.names.length y1) (.slice a2 cm.nums.length y2) (.int .i64 cm.rg.low) (.int .i64 cm.rg.high) (.bool cm.rg.hl) (.bool cm.rg.hh) (.int .u8 z.p.op) (.string z.p.nm) (.slice z.an z.nn z.nc) (.slice z.aa z.p.k z.ac)
            have g := put11_grown w7 b (.string wb) (.slice a1 cm.names.length y1) (.slice a2 cm.nums.length y2) (.int .i64 cm.rg.low) (.int .i64 cm.rg.high) (.bool cm.rg.hl) (.bool cm.rg.hh) (.int .u8 z.p.op) (.string z.p.nm) (.slice z.an z.nn z.nc) (.slice z.aa z.p.k z.ac)
            rw [hwf] at g XF
            have r0 := cell_blk XF 0
            have r1 := cell_blk XF 1
            have r2 := cell_blk XF 2
            have r3 := cell_blk XF 3
            have r4 := cell_blk XF 4
            have r5 := cell_blk XF 5
            have r6 := cell_blk XF 6
            have r7 := cell_blk XF 7
            have r8 := cell_blk XF 8
            have r9 := cell_blk XF 9
            have r10 := cell_blk XF 10
            refine bodyPost_ret (v := .tuple #[.agg #[.string wb, .slice a1 cm.names.length y1, .slice a2 cm.nums.length y2, .int .i64 cm.rg.low, .int .i64 cm.rg.high, .bool cm.rg.hl, .bool cm.rg.hh, .int .u8 z.p.op, .string z.p.nm, .slice z.an z.nn z.nc, .slice z.aa z.p.k z.ac], .int .i64 (-1), .int .i64 0]) (by simp [results, Tryz.results14, go_sem, r0, r1, r2, r3, r4, r5, r6, r7, r8, r9, r10]) rfl ⟨_, _, z, by rw [HE.out, ← HWB.out]; rfl, Lib.hid ?_, Lib.hid ?_⟩
            · exact mbelow_grown HI.out.rd.bw g (fun q e => by cases e; have := HLO.out; omega) HI.out.rd.bw.size
            · rw [HE.out]; exact HI.out.out g
          · have HE : Hid (Lx.cmE l = (Lx.noCm, (sf.at_ : Int), sf.wrong)) := Lib.hid (by rw [hE2.out, if_neg hw])
            rw [show decide (sf.wrong ≠ 0) = true by simp [hw]]
            obtain ⟨xa, hxa⟩ : ∃ z, sf.at_ = z := ⟨_, rfl⟩
            obtain ⟨xw, hxw⟩ : ∃ z, sf.wrong = z := ⟨_, rfl⟩
            rw [hxa] at c1 HE
            rw [hxw] at c3 HE
            clear hw hE2 hxa hxw
            go_upto_region 20 with fail
            go_region
            go_wp2
            obtain ⟨wf, hwf⟩ : ∃ z, put11 w7 b (.string ⟨#[]⟩) (.slice none 0 0) (.slice none 0 0) (.int .i64 0) (.int .i64 0) (.bool false) (.bool false) (.int .u8 0) (.string ⟨#[]⟩) (.slice none 0 0) (.slice none 0 0) = z := ⟨_, rfl⟩
            have hwf' := hwf
            unfold put11 at hwf'
            rw [hwf']
            have XF := put11_on HI.out.res (.string ⟨#[]⟩) (.slice none 0 0) (.slice none 0 0) (.int .i64 0) (.int .i64 0) (.bool false) (.bool false) (.int .u8 0) (.string ⟨#[]⟩) (.slice none 0 0) (.slice none 0 0)
            have g := put11_grown w7 b (.string ⟨#[]⟩) (.slice none 0 0) (.slice none 0 0) (.int .i64 0) (.int .i64 0) (.bool false) (.bool false) (.int .u8 0) (.string ⟨#[]⟩) (.slice none 0 0) (.slice none 0 0)
            rw [hwf] at g XF
            have r0 := cell_blk XF 0
            have r1 := cell_blk XF 1
            have r2 := cell_blk XF 2
            have r3 := cell_blk XF 3
            have r4 := cell_blk XF 4
            have r5 := cell_blk XF 5
            have r6 := cell_blk XF 6
            have r7 := cell_blk XF 7
            have r8 := cell_blk XF 8
            have r9 := cell_blk XF 9
            have r10 := cell_blk XF 10
            have g : w7.grownBy wf.drew (some b) := ⟨g.os, g.tape, g.output, g.size, g.block⟩
            refine bodyPost_ret (v := .tuple #[.agg zerC, .int .i64 (xa : Int), .int .i64 xw]) (by unfold zerC; simp [results, Tryz.results14, go_sem, r0, r1, r2, r3, r4, r5, r6, r7, r8, r9, r10]) rfl ⟨.slice none 0 0, .slice none 0 0, ⟨⟨0, ⟨#[]⟩, [], 0⟩, none, 0, 0, none, 0⟩, by rw [HE.out]; rfl, Lib.hid ?_, Lib.hid ?_⟩
            · exact mbelow_grown HI.out.rd.bw g (fun q e => by cases e; have := HLO.out; omega) HI.out.rd.bw.size
            · rw [HE.out]; exact no_cm (only (frB w.heap.size) wf.drew)
    · have HCM2 : Hid (Lx.cmE l = (Lx.noCm, 0, 110)) := Lib.hid (by rw [HCM.out, if_pos hw])
      have h30 : (s1.wrong != 0) = true := by simpa using hw
      obtain ⟨xx, hxx⟩ : ∃ z, s1.wrong = z := ⟨_, rfl⟩
      rw [hxx] at c3 h30
      have HE : Hid (Lx.cmE l = (Lx.noCm, 0, 110)) := Lib.hid (HCM2.out)
      obtain ⟨d0, d1, d2, d3, d4, d5, d6, d7, d8, d9, d10⟩ := DRF.out w3 HRB.out
      have f0 := blk_free HRB.out 0
      have f1 := blk_free HRB.out 1
      have f2 := blk_free HRB.out 2
      have f3 := blk_free HRB.out 3
      have f4 := blk_free HRB.out 4
      have f5 := blk_free HRB.out 5
      have f6 := blk_free HRB.out 6
      have f7 := blk_free HRB.out 7
      have f8 := blk_free HRB.out 8
      have f9 := blk_free HRB.out 9
      have f10 := blk_free HRB.out 10
      clear hw hsh hxx HCM HCM2
      go_wp2
      obtain ⟨wf, hwf⟩ : ∃ z, put11 w3 b (.string ⟨#[]⟩) (.slice none 0 0) (.slice none 0 0) (.int .i64 0) (.int .i64 0) (.bool false) (.bool false) (.int .u8 0) (.string ⟨#[]⟩) (.slice none 0 0) (.slice none 0 0) = z := ⟨_, rfl⟩
      have hwf' := hwf
      unfold put11 at hwf'
      rw [hwf']
      have XF := put11_on HRB.out (.string ⟨#[]⟩) (.slice none 0 0) (.slice none 0 0) (.int .i64 0) (.int .i64 0) (.bool false) (.bool false) (.int .u8 0) (.string ⟨#[]⟩) (.slice none 0 0) (.slice none 0 0)
      have g := put11_grown w3 b (.string ⟨#[]⟩) (.slice none 0 0) (.slice none 0 0) (.int .i64 0) (.int .i64 0) (.bool false) (.bool false) (.int .u8 0) (.string ⟨#[]⟩) (.slice none 0 0) (.slice none 0 0)
      rw [hwf] at g XF
      have r0 := cell_blk XF 0
      have r1 := cell_blk XF 1
      have r2 := cell_blk XF 2
      have r3 := cell_blk XF 3
      have r4 := cell_blk XF 4
      have r5 := cell_blk XF 5
      have r6 := cell_blk XF 6
      have r7 := cell_blk XF 7
      have r8 := cell_blk XF 8
      have r9 := cell_blk XF 9
      have r10 := cell_blk XF 10
      refine bodyPost_ret (v := .tuple #[.agg zerC, .int .i64 0, .int .i64 110]) (by unfold zerC; simp [results, Tryz.results14, go_sem, r0, r1, r2, r3, r4, r5, r6, r7, r8, r9, r10]) rfl ⟨.slice none 0 0, .slice none 0 0, ⟨⟨0, ⟨#[]⟩, [], 0⟩, none, 0, 0, none, 0⟩, by rw [HE.out]; rfl, Lib.hid ?_, Lib.hid ?_⟩
      · exact mbelow_grown HR3.out.bw g (fun q e => by cases e; have := HLO.out; omega) HR3.out.bw.size
      · rw [HE.out]; exact no_cm (only (frB w.heap.size) wf)
end Go.Proofs.YtimjendkpjojoaaGreatDoor
