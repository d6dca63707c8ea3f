/- M5 in one. -/
import Derived.Test.YtimjendkpjojoaaGreatDoorKi
import Derived.Test.YtimjendkpjojoaaGreatDoorKai
import Derived.Test.YtimjendkpjojoaaGreatDoorKf
import Derived.Deep.AppendLies
import Derived.Deep.RegionLaw
namespace Go.Proofs.YtimjendkpjojoaaGreatDoor
set_option linter.unusedVariables false
set_option linter.unusedSimpArgs false
open Go.ChangeShapes Go.WideShapes Go.ChangeAt Go.RowKit

/-- What a call of part does. -/
def PartOk (w0 : World) (rb : Nat) (ao : Option Addr) (n c : Nat) (l : List Lx.Tk) (k : Nat) : Prop :=
  ∀ (W : World) (s : Lx.St), Rd w0 W rb ao n c l s → s.parts ≤ 2000 → Calls Tryz.prog 25 #[.pointer (some ⟨rb, 0, none⟩), .int .i64 (41 - (k : Int))] W fun e w' => ∃ z : Hv, e = .returned (.agg #[.int .u8 z.p.op, .string z.p.nm, .slice z.an z.nn z.nc, .slice z.aa z.p.k z.ac]) ∧ Hid (Rd w0 w' rb ao n c l (Lx.part l k s).2) ∧ Hid (W.grownBy w' (some rb)) ∧ Hid (ExAt (only (frB W.heap.size) w') (k + 1) (hV z) (tour (Lx.part l k s).1))
theorem numsL_end {l : List Lx.Tk} {b : List UInt8} {acc : List Int} {s : Lx.St} {R : List Int × List UInt8 × Lx.St} {m : Nat} (h : Lx.numsL l m b acc s = R) (hm : m = 0) : R = (acc, b, s) := by subst hm; exact h.symm
theorem argsL_end {l : List Lx.Tk} {P : Lx.St → Lx.Ex × Lx.St} {b : List UInt8} {acc : List Lx.Ex} {s : Lx.St} {R : List Lx.Ex × List UInt8 × Lx.St} {m : Nat} (h : Lx.argsL l P m b acc s = R) (hm : m = 0) : R = (acc, b, s) := by subst hm; exact h.symm
theorem numsL_next {l : List Lx.Tk} {b : List UInt8} {acc : List Int} {s : Lx.St} {R : List Int × List UInt8 × Lx.St} {N j : Nat} (h : Lx.numsL l (N - j) b acc s = R) (hj : j < N) : Lx.numsL l (N - (j + 1)) [44] (acc ++ [(Lx.number l (Lx.mark l s b)).1]) (Lx.number l (Lx.mark l s b)).2 = R := by
  rw [show N - j = (N - (j + 1)) + 1 by omega] at h; exact h
theorem argsL_next {l : List Lx.Tk} {P : Lx.St → Lx.Ex × Lx.St} {b : List UInt8} {acc : List Lx.Ex} {s : Lx.St} {R : List Lx.Ex × List UInt8 × Lx.St} {N j : Nat} (h : Lx.argsL l P (N - j) b acc s = R) (hj : j < N) (hw : (Lx.mark l s b).wrong = 0) : Lx.argsL l P (N - (j + 1)) [44] (acc ++ [(P (Lx.mark l s b)).1]) (P (Lx.mark l s b)).2 = R := by
  rw [show N - j = (N - (j + 1)) + 1 by omega] at h; unfold Lx.argsL at h; rw [if_pos hw] at h; exact h
theorem argsL_skip {l : List Lx.Tk} {P : Lx.St → Lx.Ex × Lx.St} {b : List UInt8} {acc : List Lx.Ex} {s : Lx.St} {R : List Lx.Ex × List UInt8 × Lx.St} {N j : Nat} (h : Lx.argsL l P (N - j) b acc s = R) (hj : j < N) (hw : ¬ (Lx.mark l s b).wrong = 0) : Lx.argsL l P (N - (j + 1)) [44] acc (Lx.mark l s b) = R := by
  rw [show N - j = (N - (j + 1)) + 1 by omega] at h; unfold Lx.argsL at h; rw [if_neg hw] at h; exact h
theorem OpI.sz {w0 W w : World} {rb b : Nat} {ao : Option Addr} {n c : Nat} {l : List Lx.Tk} {s : Lx.St} {o : Int} {vn va : Value} {nums : List Int} {vs : List Hv} {Fs : List Lx.Ex} {m : Nat} (h : OpI w0 W w rb b ao n c l s o vn va nums vs Fs m) : b + 2 ≤ w.heap.size := (Array.getElem?_eq_some_iff.1 h.xb).1
/-- The box behind an append. -/
theorem OpI.xb4 {w0 W w w4 : World} {rb b : Nat} {ao : Option Addr} {n c : Nat} {l : List Lx.Tk} {s : Lx.St} {o : Int} {vn va : Value} {nums : List Int} {vs : List Hv} {Fs : List Lx.Ex} {m : Nat} {row : Option Nat} {ob : Obj} (h : OpI w0 W w rb b ao n c l s o vn va nums vs Fs m) (g : (w.alloc ob).grownBy w4 row) (hr : ∀ q, row = some q → b + 2 ≤ q) : w4.heap[b + 1]? = some (.cells #[.int .u8 o, .string ⟨#[]⟩, vn, va] 25 (0, 0)) := by
  have hs := h.sz
  exact (g.block (b + 1) (by simp; omega) (fun e => by have := hr _ e.symm; omega)).trans ((al_old w ob (by omega)).trans h.xb)
set_option maxRecDepth 20000 in
set_option maxHeartbeats 4000000 in
theorem operands_any (w0 : World) (rb : Nat) (ao : Option Addr) (n c : Nat) (l : List Lx.Tk) (hB : Lx.TkB l) (hT : Tabn w0) (k : Nat) (hP : PartOk w0 rb ao n c l k) (hk : k ≤ 40) (W : World) (i : Nat) (h1 : i < 13) (s : Lx.St) (h : Rd w0 W rb ao n c l s) (hs : Lx.PI s) :
    Calls Tryz.prog 55 #[.pointer (some ⟨rb, 0, none⟩), .int .u8 (i : Int), .int .i64 (40 - (k : Int))] W fun e w' => ∃ z : Hv, e = .returned (.agg #[.int .u8 z.p.op, .string z.p.nm, .slice z.an z.nn z.nc, .slice z.aa z.p.k z.ac]) ∧ Hid (Rd w0 w' rb ao n c l (Lx.operands l (Lx.part l k) i s).2) ∧ Hid (W.grownBy w' (some rb)) ∧ Hid (ExAt (only (frB W.heap.size) w') (k + 2) (hV z) (tour (Lx.operands l (Lx.part l k) i s).1)) := by
  obtain ⟨b, hb⟩ : ∃ z, W.heap.size = z := ⟨_, rfl⟩
  obtain ⟨w1, hw1⟩ : ∃ z, (W.alloc (.cells #[.int .u8 0, .string ⟨#[]⟩, .slice none 0 0, .slice none 0 0] 25)).alloc (.cells #[.int .u8 (i : Int), .string ⟨#[]⟩, .slice none 0 0, .slice none 0 0] 25) = z := ⟨_, rfl⟩
  have KA : Below W.heap.size W w1 := by rw [← hw1]; exact ((Below.refl _ W).alloc (Nat.le_refl _) _).alloc (by simp) _
  have HI : Hid (OpI w0 W w1 rb b ao n c l s (i : Int) (.slice none 0 0) (.slice none 0 0) [] [] [] (k + 1)) := Lib.hid (by
    refine ⟨h.keep KA, grown_of_below KA _, hb, ⟨by have := h.bw.size; omega, by have := h.lt; omega⟩, ?_, ?_, World.ownsRow_nil _ _ _ _, (fun z hz => by cases hz), World.ownsRow_nil _ _ _ _, rfl, fun i hi => absurd hi (Nat.not_lt_zero _)⟩
    · rw [← hw1, ← hb, al_old _ _ (by simp), al_new]
    · rw [← hw1, ← hb]
      have := al_new (W.alloc (.cells #[.int .u8 0, .string ⟨#[]⟩, .slice none 0 0, .slice none 0 0] 25)) (.cells #[.int .u8 (i : Int), .string ⟨#[]⟩, .slice none 0 0, .slice none 0 0] 25)
      simpa using this)
  have HT1 : Tabn w1 := hT.keep HI.out.rd.bw
  have HNU := Lib.hid (nums_in i w1 HT1 h1)
  rw [nuN_eq i h1] at HNU
  have HAR := Lib.hid (fun W (q : Below w0.heap.size w0 W) => args_in i W (hT.keep q) h1)
  rw [arN_eq i h1] at HAR
  have HLE := nuN_le i h1
  unfold Lx.operands Lx.opB Lx.opA
  obtain ⟨N, hN⟩ : ∃ N, Lx.nuN i = N := ⟨_, rfl⟩
  obtain ⟨M, hM⟩ : ∃ N, Lx.arN i = N := ⟨_, rfl⟩
  rw [hN] at HNU HLE
  rw [hM] at HAR HLE
  rw [hN, hM]
  have N3 := HLE.1
  have M3 := HLE.2
  obtain ⟨R, hR⟩ : ∃ R, Lx.numsL l N [40] [] s = R := ⟨_, rfl⟩
  have HRP : Hid (Lx.PI R.2.2) := Lib.hid (by rw [← hR]; exact hs.on (Lx.numsL_on l _ _ _ _) (Lx.numsL_parts l _ _ _ _))
  have HR : Hid (Lx.numsL l (N - 0) [40] [] s = R) := Lib.hid hR
  rw [hR]
  obtain ⟨R2, hR2⟩ : ∃ R2, Lx.argsL l (Lx.part l k) M R.2.1 [] R.2.2 = R2 := ⟨_, rfl⟩
  have HR2 := Lib.hid hR2
  rw [hR2]
  have HP := Lib.hid hP
  have HTB := Lib.hid hB
  have i0 : (0 : Int) ≤ (i : Int) := by omega
  have i1 : (i : Int) ≤ 12 := by omega
  have k0 : (0 : Int) ≤ (k : Int) := by omega
  have k1 : (k : Int) ≤ 40 := by omega
  obtain ⟨i0', hk0, hk1, hk2, hk3⟩ := info_parts' info2'
  obtain ⟨i1', hm0, hm1, hm2, hm3⟩ := info_parts' info25
  obtain ⟨HP1⟩ : Nonempty (Hid (41 - (k : Int) = 40 - (k : Int) + 1)) := ⟨Lib.hid (by omega)⟩
  have HW1 := Lib.hid hw1
  have HBS := Lib.hid hb
  clear hw1 hb
  clear h KA HT1 hN hM hR hR2 hP hB HLE hs hT
  go_enter Tryz.func55, Tryz.ntmps55
  go_upto_region 3 with fail
  rw [HW1.out, HBS.out]
  go_wp2_with fail
  (with_reducible refine HNU.out.mono ?_)
  rintro e w2 ⟨rfl, rfl⟩
  clear HNU
  go_upto_region 5 with fail
  clear HW1 HBS
  go_loopw [8, 19] (fun s8 ii wr => ∃ (j : Nat) (bf : List UInt8) (nums : List Int) (st : Lx.St) (vn : Value), j ≤ N ∧ ii = .int .i64 j ∧ s8 = .string ⟨bf.toArray⟩ ∧ Hid (nums.length ≤ j) ∧ Hid (OpI w0 W wr rb b ao n c l st (i : Int) vn (.slice none 0 0) nums [] [] (k + 1)) ∧ Hid (Lx.numsL l (N - j) bf nums st = R)) (fun s8 ii _ => N - (intOf ii).toNat)
  case atStart => exact ⟨0, [40], [], s, .slice none 0 0, Nat.zero_le _, rfl, rfl, Lib.hid (Nat.le_refl _), HI, HR⟩
  case round =>
    clear HI HR
    obtain ⟨j, bf, nums, st, vn, hj, rfl, rfl, HL, HI, HR⟩ := hrel
    have j0 : (0 : Int) ≤ (j : Int) := by omega
    by_cases jlt : j < N
    · have j1 : (j : Int) < N := by omega
      have HM := Lib.hid (mark_any w0 wr rb ao n c l st bf HI.out.rd)
      have HRN := Lib.hid (numsL_next HR.out jlt)
      obtain ⟨s1, hs1⟩ : ∃ s1, Lx.mark l st bf = s1 := ⟨_, rfl⟩
      rw [hs1] at HM HRN
      obtain ⟨bb, hbb⟩ : ∃ bb : ByteArray, ⟨bf.toArray⟩ = bb := ⟨_, rfl⟩
      rw [hbb] at HM ⊢
      clear hs1 hbb
      go_wp2_with fail
      (with_reducible refine HM.out.mono ?_)
      rintro e w2 ⟨rfl, HR2', HG⟩
      have HI := Lib.hid (HI.out.step HR2'.out HG.out)
      have HD := Lib.hid (HI.out.keep (Below.refl _ w2).drew)
      have HN := Lib.hid (pnumber_any w0 w2.drew rb ao n c l s1 HD.out.rd)
      have HZB := Lib.hid (Lx.number_B HTB.out s1)
      obtain ⟨⟨z, s2⟩, hz⟩ : ∃ z, Lx.number l s1 = z := ⟨_, rfl⟩
      rw [hz] at HN HRN HZB
      dsimp only at HN HRN HZB
      have e2 := cell_blk HI.out.xb 2
      clear hz HM HR2' HG HR
      go_upto_region 7 with fail
      go_region_law (first
        | (go_simp; go_at_call 38; (with_reducible refine HN.out.mono ?_); rintro e w3 ⟨rfl, HR3, HG3⟩; have HI3 := Lib.hid (HD.out.step HR3.out HG3.out); clear e2; have e2 := cell_blk HI3.out.xb 2; have z3 := HI3.out.sz; have e3 : (w3.alloc (.cells #[.int .i64 z] 2)).cell? ⟨b + 1, 2, none⟩ = some vn := cell_blk ((al_old _ _ (by omega)).trans HI3.out.xb) 2)
        | (refine step_append_lies _ rfl (.tmp 25) (.tmp 28) 22 rfl (b + 2) 2 i0' (.int .i64 0) 1 8 Tryz.underlying22 hk0 hk1 hk2 hk3 rfl (by decide) vn nums.length (nums.map (Value.int .i64)) rfl (HI3.out.nr.alloc _) _ 1 1 [.int .i64 z] rfl rfl (World.news_of_block (al_new _ _)) (fun u hu => by simp at hu; subst hu; rfl) (by decide) (by unfold maxLen; have := HL.out; omega) (by have := HL.out; omega) (Nat.le_trans HI3.out.sz (by simp)) _ rfl ?_; intro g cap w4 own gr hv hlt; have HO4 := Lib.hid own; have HG4 := Lib.hid gr; have X4 := Lib.hid (HI3.out.xb4 gr (fun q e => (HI3.out.nr.lt q e).1)); clear own gr hv hlt e2; have e2 := cell_blk X4.out 2; have f2 := blk_free X4.out 2))
      all_goals
        have HI5 := Lib.hid ((HI3.out.keep ((Below.refl _ w3).alloc (Nat.le_refl _) (.cells #[.int .i64 z] 2))).num (w4 := w4) (v' := .slice (some ⟨g, 0, none⟩) (nums.length + 1) cap) rfl HZB.out (by have := HO4.out; simpa using this) HG4.out)
        obtain ⟨w5, hw5⟩ : ∃ x, w4.setCell ⟨b + 1, 2, none⟩ (.slice (some ⟨g, 0, none⟩) (nums.length + 1) cap) = x := ⟨_, rfl⟩
        rw [hw5] at HI5 ⊢
        clear hw5 HI3 HI HD HO4 HG4 X4 e2 f2 HR3 HG3 HN
        go_wp2
        go_roundw
        case rel => exact ⟨j + 1, [44], nums ++ [z], s2, _, by omega, by go_num, rfl, Lib.hid (by simp; have := HL.out; omega), HI5, HRN⟩
        case measure => simp [intOf]; omega
    · obtain rfl : j = N := by omega
      have e := numsL_end HR.out (by omega)
      subst e
      dsimp only at HRP HR2 ⊢
      clear HR
      have HA2 := Lib.hid (HAR.out wr HI.out.rd.bw)
      go_wp2_with fail
      (with_reducible refine HA2.out.mono ?_)
      rintro e w2 ⟨rfl, rfl⟩
      clear HA2 HAR
      go_upto_region 11 with fail
      have HR2 : Hid (Lx.argsL l (Lx.part l k) (M - 0) bf [] st = R2) := HR2
      obtain ⟨wo, hwo⟩ : ∃ wo, wr = wo := ⟨_, rfl⟩
      subst hwo
      go_loopw [8, 34] (fun s8 ii wq => ∃ (q : Nat) (bf : List UInt8) (st : Lx.St) (va : Value) (vs : List Hv) (Fs : List Lx.Ex), q ≤ M ∧ ii = .int .i64 q ∧ s8 = .string ⟨bf.toArray⟩ ∧ Hid (vs.length ≤ q ∧ Lx.PI st) ∧ Hid (OpI w0 W wq rb b ao n c l st (i : Int) vn va nums vs Fs (k + 1)) ∧ Hid (Lx.argsL l (Lx.part l k) (M - q) bf Fs st = R2)) (fun s8 ii _ => M - (intOf ii).toNat)
      case atStart => exact ⟨0, bf, st, .slice none 0 0, [], [], Nat.zero_le _, rfl, rfl, Lib.hid ⟨Nat.le_refl _, HRP.out⟩, HI, HR2⟩
      case round =>
        clear HI HR2 HRP
        obtain ⟨q, bf, st, va, vs, Fs, hq, rfl, rfl, HL, HI, HR⟩ := hrel
        have q0 : (0 : Int) ≤ (q : Int) := by omega
        by_cases qlt : q < M
        · have q1 : (q : Int) < M := by omega
          have HM := Lib.hid (mark_any w0 wr rb ao n c l st bf HI.out.rd)
          have HPI : Hid (Lx.PI (Lx.mark l st bf)) := Lib.hid (HL.out.2.on (Lx.mark_on l st bf) (Lx.mark_parts l st bf))
          have HRN := Lib.hid (fun z => argsL_next (P := Lx.part l k) HR.out qlt z)
          have HRS := Lib.hid (fun z => argsL_skip (P := Lx.part l k) HR.out qlt z)
          obtain ⟨s1, hs1⟩ : ∃ s1, Lx.mark l st bf = s1 := ⟨_, rfl⟩
          rw [hs1] at HM HRN HRS HPI
          obtain ⟨bb, hbb⟩ : ∃ bb : ByteArray, ⟨bf.toArray⟩ = bb := ⟨_, rfl⟩
          rw [hbb] at HM ⊢
          clear hs1 hbb
          go_wp2_with fail
          (with_reducible refine HM.out.mono ?_)
          rintro e w2 ⟨rfl, HR2', HG⟩
          have HI := Lib.hid (HI.out.step HR2'.out HG.out)
          have c3 := HI.out.rd.cells.2.2.2
          by_cases hw : s1.wrong = 0
          · have HRN := Lib.hid (HRN.out hw)
            have HD := Lib.hid (HI.out.keep (Below.refl _ w2).drew)
            have HN := Lib.hid (HP.out w2.drew s1 HD.out.rd (HPI.out.2 hw))
            rw [HP1.out] at HN
            have HPI2 := Lib.hid (Lx.part_PI l k s1 (HPI.out.2 hw))
            have HBa : Hid (∀ q, va.ownBlock = some q → q < w2.drew.heap.size) := Lib.hid (fun q e => (HD.out.ar.lt q e).2)
            have HBs : Hid (b + 2 ≤ w2.drew.heap.size) := Lib.hid HD.out.sz
            obtain ⟨⟨F, s2⟩, hz⟩ : ∃ z, Lx.part l k s1 = z := ⟨_, rfl⟩
            rw [hz] at HN HRN HPI2
            dsimp only at HN HRN HPI2
            rw [hw] at c3
            have e2 := cell_blk HI.out.xb 3
            clear hz HM HR2' HG HR HRS
            have e48 : IntKind.i64.wrap (40 - (k : Int) + 1) = 40 - (k : Int) + 1 := IntWalk.i64_in _ (by omega)
            have LV : vs.length ≤ 100 := by have := HL.out.1; omega
            go_upto_region 14 with fail
            clear c3 hw
            go_region_law (first
              | (go_simp; go_at_call 25; (with_reducible refine HN.out.mono ?_); rintro e w3 ⟨⟨⟨zo, znm, znu, zk⟩, zan, znn, znc, zaa, zac⟩, rfl, HR3, HG3, HX3⟩; have HI3 := Lib.hid (HD.out.step HR3.out HG3.out); clear e2; have e2 := cell_blk HI3.out.xb 3; have z3 := HI3.out.sz; have e3 : (w3.alloc (.cells #[.int .u8 zo, .string znm, .slice zan znn znc, .slice zaa zk zac] 25)).cell? ⟨b + 1, 3, none⟩ = some va := cell_blk ((al_old _ _ (by omega)).trans HI3.out.xb) 3)
              | (refine step_append_lies _ rfl (.tmp 45) (.tmp 50) 23 rfl (b + 2) 25 i1' _ 4 72 Tryz.underlying23 hm0 hm1 hm2 hm3 rfl (by decide) va vs.length (hCells vs) rfl (HI3.out.ar.alloc _) _ 1 1 (hC ⟨⟨zo, znm, znu, zk⟩, zan, znn, znc, zaa, zac⟩) rfl rfl (World.news_of_block (al_new _ _)) (fun u hu => hCells_one [⟨⟨zo, znm, znu, zk⟩, zan, znn, znc, zaa, zac⟩] u (by simpa [hCells] using hu)) (by decide) (by unfold maxLen; omega) (by omega) (Nat.le_trans HI3.out.sz (by simp)) _ rfl ?_; intro g cap w4 own gr hv hlt; have HO4 := Lib.hid own; have HG4 := Lib.hid gr; have HV4 := Lib.hid hv; have X4 := Lib.hid (HI3.out.xb4 gr (fun q e => (HI3.out.ar.lt q e).1)); clear own gr hv hlt e2; have e2 := cell_blk X4.out 3; have f2 := blk_free X4.out 3))
            all_goals
              have HI5 := Lib.hid ((HI3.out.keep ((Below.refl _ w3).alloc (Nat.le_refl _) (.cells #[.int .u8 zo, .string znm, .slice zan znn znc, .slice zaa zk zac] 25))).arg (w4 := w4) (v' := .slice (some ⟨g, 0, none⟩) (vs.length + 1) cap) (z := ⟨⟨zo, znm, znu, zk⟩, zan, znn, znc, zaa, zac⟩) (F := F) (B := w2.drew.heap.size) HBs.out HBa.out (HX3.out.sub (only_sub (fun q e lt => ⟨e, al_old _ _ lt⟩))) (by have := HO4.out; simpa [hCells_app, hCells] using this) HG4.out (by rcases HV4.out with e | e; exact .inl e.symm; exact .inr (fun q e' => by have e3' : g = q := Option.some.inj e'; omega)))
              obtain ⟨w5, hw5⟩ : ∃ x, w4.setCell ⟨b + 1, 3, none⟩ (.slice (some ⟨g, 0, none⟩) (vs.length + 1) cap) = x := ⟨_, rfl⟩
              rw [hw5] at HI5 ⊢
              clear hw5 HI3 HI HD HO4 HG4 X4 e2 f2 HR3 HG3 HN e48 HX3 HV4
              go_wp2
              go_roundw
              case rel => exact ⟨q + 1, [44], s2, _, _, _, by omega, by go_num, rfl, Lib.hid ⟨by simp; have := HL.out.1; omega, HPI2.out⟩, HI5, HRN⟩
              case measure => simp [intOf]; omega
          · have HRS := Lib.hid (HRS.out hw)
            have h0 : (s1.wrong == 0) = false := by simpa using hw
            obtain ⟨x, hx⟩ : ∃ x, s1.wrong = x := ⟨_, rfl⟩
            rw [hx] at c3 h0
            clear hx hw HM HR2' HG HR HRN
            go_wp2
            go_roundw
            case rel => exact ⟨q + 1, [44], s1, _, _, _, by omega, by go_num, rfl, Lib.hid ⟨by have := HL.out.1; omega, HPI.out⟩, HI, HRS⟩
            case measure => simp [intOf]; omega
        · obtain rfl : q = M := by omega
          have e := argsL_end HR.out (by omega)
          subst e
          clear HR
          have HM := Lib.hid (mark_any w0 wr rb ao n c l st [41] HI.out.rd)
          go_wp2_with fail
          (with_reducible refine HM.out.mono ?_)
          rintro e w2 ⟨rfl, HR2', HG⟩
          have HI := Lib.hid (HI.out.step HR2'.out HG.out)
          obtain ⟨an, nc, aa, ac, rfl, rfl, hx⟩ := HI.out.done ⟨i0, by omega⟩
          have HX := Lib.hid hx
          have e0 := cell_blk HI.out.xb 0
          have e1 := cell_blk HI.out.xb 1
          have e2 := cell_blk HI.out.xb 2
          have e3 := cell_blk HI.out.xb 3
          have g0 := cell_blk HI.out.res 0
          have g1 := cell_blk HI.out.res 1
          have g2 := cell_blk HI.out.res 2
          have g3 := cell_blk HI.out.res 3
          have f0 := blk_free HI.out.res 0
          have f1 := blk_free HI.out.res 1
          have f2 := blk_free HI.out.res 2
          have f3 := blk_free HI.out.res 3
          clear hx HM HR2' HG
          go_wp2
          obtain ⟨wf, hwf⟩ : ∃ z, put4 w2 b (.int .u8 (i : Int)) (.string ⟨#[]⟩) (.slice an nums.length nc) (.slice aa Fs.length ac) = z := ⟨_, rfl⟩
          have hwf' := hwf
          unfold put4 at hwf'
          rw [hwf']
          have XF := put4_on HI.out.res (.int .u8 (i : Int)) (.string ⟨#[]⟩) (.slice an nums.length nc) (.slice aa Fs.length ac)
          have g := put4_grown w2 b (.int .u8 (i : Int)) (.string ⟨#[]⟩) (.slice an nums.length nc) (.slice aa Fs.length ac)
          rw [hwf] at g XF
          have r0 := cell_blk XF 0
          have r1 := cell_blk XF 1
          have r2 := cell_blk XF 2
          have r3 := cell_blk XF 3
          refine bodyPost_ret (v := .agg #[.int .u8 (i : Int), .string ⟨#[]⟩, .slice an nums.length nc, .slice aa Fs.length ac]) (by simp [results, Tryz.results55, go_sem, r0, r1, r2, r3]) rfl ⟨⟨⟨(i : Int), ⟨#[]⟩, nums, Fs.length⟩, an, nums.length, nc, aa, ac⟩, rfl, Lib.hid ?_, Lib.hid ?_, Lib.hid ?_⟩
          · exact HI.out.rd.grown g (fun q e => by cases e; have := HI.out.ne; omega)
          · exact grown_new HI.out.gr g (Nat.le_of_eq HI.out.lo)
          · refine HX.out.sub (only_sub (fun q e lt => ⟨frB_le (by have := le_frB e; have := HI.out.lo; omega), g.block q lt (fun e' => ?_)⟩))
            have := le_frB e
            cases e'
            omega
end Go.Proofs.YtimjendkpjojoaaGreatDoor
