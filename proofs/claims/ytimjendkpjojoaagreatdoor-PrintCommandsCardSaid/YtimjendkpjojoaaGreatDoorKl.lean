/- X3 in one. -/
import Derived.Test.YtimjendkpjojoaaGreatDoorKk
namespace Go.Proofs.YtimjendkpjojoaaGreatDoor
set_option linter.unusedVariables false
set_option linter.unusedSimpArgs false
open Go.ChangeShapes Go.WideShapes Go.ChangeAt Go.RowKit

/-- What writeExpr holds on its way. -/
structure WrS (w0 W wr : World) (b bx : Nat) (cs : Array Value) (acc : List UInt8) : Prop where
  pr : PrS w0 wr b acc
  box : wr.heap[bx]? = some (.cells cs 25 (0, 0))
  ne : bx ≠ b
  ok : Lib.OthersKept 5 (some b) W wr
theorem WrS.call {w0 W wr w' : World} {b bx : Nat} {cs : Array Value} {acc acc' : List UInt8} (h : WrS w0 W wr b bx cs acc) (p : PrS w0 w' b acc') (k : Lib.OthersKept 5 (some b) wr w') : WrS w0 W w' b bx cs acc' :=
  ⟨p, ok_blk k h.box (by decide) h.ne, h.ne, h.ok.trans k⟩
theorem WrS.keep {w0 W wr w' : World} {b bx : Nat} {cs : Array Value} {acc : List UInt8} (h : WrS w0 W wr b bx cs acc) (k : Below wr.heap.size wr w') : WrS w0 W w' b bx cs acc := h.call (h.pr.keep k) (ok_below k)
theorem len_toArray (l : List UInt8) : (⟨l.toArray⟩ : ByteArray).size = l.length := by rw [Lib.size_eq]
set_option maxRecDepth 20000 in
set_option maxHeartbeats 4000000 in
theorem write_any (w0 : World) (hT : Tp w0) (b : Nat) : ∀ (k : Nat) (x : Lx.Ex) (n : Nat) (v : Value), ExAt w0 n v (tour x) → Lx.Ok k x → ∀ (W : World) (acc : List UInt8), PrS w0 W b acc → acc.length + (Lx.lineX x).length ≤ 70368744177664 →
    Calls Tryz.prog 20 #[.pointer (some ⟨b, 0, none⟩), v] W fun e w' => e = .returned (.tuple #[]) ∧ Hid (PrS w0 w' b (acc ++ Lx.lineX x)) ∧ Hid (Lib.OthersKept 5 (some b) W w')
  | 0, _, _, _, _, h => h.elim
  | k + 1, .mk op nm nu xs, n, v, hE, ho => by
    intro W acc hP hlen
    have HK := Lib.hid (fun y n v W acc (q : ExAt w0 n v (tour y)) (o : Lx.Ok k y) (p : PrS w0 W b acc) l => write_any w0 hT b k y n v q o W acc p l)
    obtain ⟨m, an, nn, nc, aa, ac, rfl, rfl, hd, hkids⟩ := ex_kids hE
    have HD := Lib.hid hd
    have HKIDS := Lib.hid hkids
    have HT := Lib.hid hT
    obtain ⟨bx, hbx⟩ : ∃ z, W.heap.size = z := ⟨_, rfl⟩
    obtain ⟨w1, hw1⟩ : ∃ z, W.alloc (.cells #[.int .u8 op, .string ⟨nm.toArray⟩, .slice an nn nc, .slice aa xs.length ac] 25) = z := ⟨_, rfl⟩
    have KA : Below W.heap.size W w1 := by rw [← hw1]; exact (Below.refl _ W).alloc (Nat.le_refl _) _
    have HI : Hid (WrS w0 W w1 b bx #[.int .u8 op, .string ⟨nm.toArray⟩, .slice an nn nc, .slice aa xs.length ac] acc) := Lib.hid ⟨hP.keep KA, by rw [← hw1, ← hbx, al_new], by have := hP.lt; omega, ok_below KA⟩
    clear KA hP hE hd hkids hT
    rcases ho with ⟨rfl, rfl, rfl⟩ | ⟨h1, h2, rfl, h3, h4, h5⟩
    · rw [Lx.line_leaf] at hlen ⊢
      have HS := Lib.hid (fun W' (p : PrS w0 W' b acc) => ws_any w0 W' b acc ⟨nm.toArray⟩ p (by rw [len_toArray]; omega))
      rw [show (⟨nm.toArray⟩ : ByteArray).data.toList = nm by simp] at HS
      obtain ⟨bd, hbd⟩ : ∃ z : ByteArray, ⟨nm.toArray⟩ = z := ⟨_, rfl⟩
      rw [hbd] at HS HI hw1 ⊢
      simp only [List.length_nil] at HI hw1 ⊢
      clear HK HKIDS hlen hbd
      have e0 := cell_blk HI.out.box 0
      have e1 := cell_blk HI.out.box 1
      go_enter Tryz.func20, Tryz.ntmps20
      go_upto_region 1 with fail
      clear hw1 hbx
      go_wp2_with fail
      (with_reducible refine (HS.out w1 HI.out.pr).mono ?_)
      rintro e w2 ⟨rfl, HP2, HK2⟩
      have HI := Lib.hid (HI.out.call HP2.out HK2.out)
      clear HS HP2 HK2 e0 e1
      go_wp2_with fail
      go_returns
      exact ⟨rfl, Lib.hid HI.out.pr, Lib.hid HI.out.ok⟩
    · have hz : ¬ op = 0 := by omega
      have HLE := Lib.hid (Lx.line_end hz [] nu xs)
      have HLN := Lib.hid (fun j => Lx.preL_len hz [] nu xs j)
      have HLA := Lib.hid (fun j hj => Lx.arg_len hz [] nu xs j hj)
      obtain ⟨LL, hLL⟩ : ∃ L, Lx.lineX (.mk op [] nu xs) = L := ⟨_, rfl⟩
      rw [hLL] at HLE HLN HLA hlen ⊢
      have HLEN := Lib.hid hlen
      have HNUM := Lib.hid (fun j hj => Lx.preL_num op nu xs j hj)
      have HARG := Lib.hid (fun j hj => Lx.preL_arg op nu xs j hj)
      have HZ := Lib.hid (Lx.preL_zero op nu xs)
      obtain ⟨PP, hPP⟩ : ∃ f : Nat → List UInt8, Lx.preL op nu xs = f := ⟨_, rfl⟩
      rw [hPP] at HLE HLN HLA HNUM HARG HZ
      have HOK := Lib.hid h5
      clear hLL hlen hPP h3 h4 h5
      obtain ⟨i, rfl⟩ : ∃ i : Nat, op = (i : Int) := ⟨op.toNat, by omega⟩
      have i1 : 1 ≤ i := by omega
      have i2 : i ≤ 12 := by omega
      have iz : ((i : Int) == 0) = false := by simp; omega
      have i0 : (0 : Int) ≤ (i : Int) := by omega
      have i3 : (i : Int) < 13 := by omega
      have ez : (⟨([] : List UInt8).toArray⟩ : ByteArray) = ⟨#[]⟩ := rfl
      rw [ez] at hw1 HI HD ⊢
      clear ez
      have HW : Hid (opP i = PP 0) := Lib.hid (by rw [HZ.out]; unfold opP; rw [if_neg (by omega), Int.toNat_natCast])
      have HWC : Hid (∀ W', Below w0.heap.size w0 W' → W'.cell? ⟨0, i, none⟩ = some (.string ⟨(PP 0).toArray⟩)) := Lib.hid (fun W' q => by rw [← HW.out]; exact cell_keep (HT.out.words i (by omega)) q)
      have HN := Lib.hid HD.out.nums
      have nlen := HN.out.len
      have nle := HN.out.le
      have ntop := HN.out.top
      dsimp only at nlen
      have n0 : (0 : Int) ≤ (nn : Int) := by omega
      have n1 : (nn : Int) ≤ 9223372036854775807 := by omega
      have xle := HD.out.le
      have xtop := HD.out.top
      dsimp only at xle
      have x0 : (0 : Int) ≤ (xs.length : Int) := by omega
      have x1 : (xs.length : Int) ≤ 9223372036854775807 := by omega
      clear hz h1 h2 HZ HW
      have HS := Lib.hid (fun W' a (s : ByteArray) (p : PrS w0 W' b a) l => ws_any w0 W' b a s p l)
      have e0 := cell_blk HI.out.box 0
      have e1 := cell_blk HI.out.box 1
      have c0 := HWC.out w1 HI.out.pr.bw
      have HL0 : Hid (acc.length + (⟨(PP 0).toArray⟩ : ByteArray).size ≤ 140737488355328) := Lib.hid (by rw [len_toArray]; have := HLN.out 0; have := HLEN.out; omega)
      have HB0 : Hid (acc ++ (⟨(PP 0).toArray⟩ : ByteArray).data.toList = acc ++ PP 0) := Lib.hid (by simp)
      obtain ⟨bd, hbd⟩ : ∃ z : ByteArray, ⟨(PP 0).toArray⟩ = z := ⟨_, rfl⟩
      rw [hbd] at HL0 HB0 c0
      clear hbd
      go_enter Tryz.func20, Tryz.ntmps20
      go_upto_region 1 with fail
      clear hw1 hbx
      go_wp2_with fail
      (with_reducible refine (HS.out w1 acc bd HI.out.pr HL0.out).mono ?_)
      rintro e w2 ⟨rfl, HP2, HK2⟩
      rw [HB0.out] at HP2
      have HI := Lib.hid (HI.out.call HP2.out HK2.out)
      clear HP2 HK2 e0 e1 c0 HL0 HB0 HWC
      have e2 := cell_blk HI.out.box 2
      go_upto_region 7 with fail
      clear e2
      go_loopw [5, 7, 28] (fun s5 s7 ii wr => ∃ j : Nat, j ≤ nu.length ∧ ii = .int .i64 j ∧ s5 = .string ⟨(if j = 0 then ([40] : List UInt8) else [44, 32]).toArray⟩ ∧ Hid (WrS w0 W wr b bx #[.int .u8 (i : Int), .string ⟨#[]⟩, .slice an nn nc, .slice aa xs.length ac] (acc ++ PP j))) (fun s5 s7 ii _ => nn - (intOf ii).toNat)
      case atStart => exact ⟨0, Nat.zero_le _, rfl, rfl, HI⟩
      case round =>
        clear HI
        obtain ⟨j, hj, rfl, rfl, HI⟩ := hrel
        have j0 : (0 : Int) ≤ (j : Int) := by omega
        by_cases jlt : j < nu.length
        · have j1 : (j : Int) < (nn : Int) := by omega
          obtain ⟨nb, np, han, hc⟩ := HN.out.here (by omega)
          have c1 := cell_keep (hc j jlt).1 HI.out.pr.bw
          have HZB := Lib.hid (hc j jlt).2
          have HNX := Lib.hid (HNUM.out j jlt)
          have HLX := Lib.hid (HLN.out (j + 1))
          obtain ⟨sp, hsp⟩ : ∃ z : ByteArray, ⟨(if j = 0 then ([40] : List UInt8) else [44, 32]).toArray⟩ = z := ⟨_, rfl⟩
          have HSP : Hid (sp.data.toList = if j = 0 then ([40] : List UInt8) else [44, 32]) := Lib.hid (by rw [← hsp])
          rw [hsp]
          rw [← HSP.out] at HNX
          clear hsp HSP
          subst han
          generalize nu[j] = z at c1 HZB HNX
          have HSZ : Hid (sp.data.toList.length = sp.size) := Lib.hid (by rw [Lib.size_eq])
          have HL1 : Hid ((acc ++ PP j).length + sp.size ≤ 140737488355328) := Lib.hid (by have a := HNX.out; have b := congrArg List.length a; simp only [List.length_append] at b ⊢; have := HLX.out; have := HLEN.out; have := HSZ.out; omega)
          have HL2 : Hid ((acc ++ PP j ++ sp.data.toList).length + (⟨(Lib.itoa z).toArray⟩ : ByteArray).size ≤ 140737488355328) := Lib.hid (by rw [len_toArray]; have a := HNX.out; have b := congrArg List.length a; simp only [List.length_append] at b ⊢; have := HLX.out; have := HLEN.out; omega)
          have HB2 : Hid (acc ++ PP j ++ sp.data.toList ++ (⟨(Lib.itoa z).toArray⟩ : ByteArray).data.toList = acc ++ PP (j + 1)) := Lib.hid (by rw [HNX.out]; simp)
          have HF := Lib.hid (fun W' q => fmt_any z HZB.out.1 HZB.out.2 W' (HT.out.keep q))
          obtain ⟨zb, hzb⟩ : ∃ y : ByteArray, ⟨(Lib.itoa z).toArray⟩ = y := ⟨_, rfl⟩
          rw [hzb] at HF HB2 HL2
          clear hzb hc HZB
          go_wp2_with fail
          (with_reducible refine (HS.out wr _ sp HI.out.pr HL1.out).mono ?_)
          rintro e w3 ⟨rfl, HP2, HK2⟩
          have HI := Lib.hid (HI.out.call HP2.out HK2.out)
          clear HP2 HK2 c1
          go_wp2_with fail
          (with_reducible refine (HF.out w3 HI.out.pr.bw).mono ?_)
          rintro e w4 ⟨rfl, q⟩
          have HI := Lib.hid (HI.out.keep q)
          clear q HF
          go_wp2_with fail
          (with_reducible refine (HS.out w4 _ zb HI.out.pr HL2.out).mono ?_)
          rintro e w5 ⟨rfl, HP2, HK2⟩
          have HI := Lib.hid (HI.out.call HP2.out HK2.out)
          rw [HB2.out] at HI
          clear HP2 HK2
          go_wp2_with fail
          go_roundw
          case rel => exact ⟨j + 1, by omega, by go_num, by rw [if_neg (by omega)], HI⟩
          case measure => simp [intOf]; omega
        · obtain rfl : j = nu.length := by omega
          have j1 : ¬ ((nu.length : Int)) < (nn : Int) := by omega
          have e3 := cell_blk HI.out.box 3
          obtain ⟨wo, hwo⟩ : ∃ wo, wr = wo := ⟨_, rfl⟩
          subst hwo
          obtain ⟨sp, hsp⟩ : ∃ z : ByteArray, ⟨(if nu.length = 0 then ([40] : List UInt8) else [44, 32]).toArray⟩ = z := ⟨_, rfl⟩
          rw [hsp]
          have HSP := Lib.hid hsp
          clear hsp
          go_upto_region 14 with fail
          clear e3
          go_loopw [5, 9, 43] (fun s5 s9 ii wq => ∃ q : Nat, q ≤ xs.length ∧ ii = .int .i64 q ∧ s5 = .string ⟨(if nu.length + q = 0 then ([40] : List UInt8) else [44, 32]).toArray⟩ ∧ Hid (WrS w0 W wq b bx #[.int .u8 (i : Int), .string ⟨#[]⟩, .slice an nn nc, .slice aa xs.length ac] (acc ++ PP (nu.length + q)))) (fun s5 s9 ii _ => xs.length - (intOf ii).toNat)
          case atStart => exact ⟨0, Nat.zero_le _, rfl, by rw [← HSP.out]; rfl, HI⟩
          case round =>
            clear HI HSP
            obtain ⟨q, hq, rfl, rfl, HI⟩ := hrel
            have q0 : (0 : Int) ≤ (q : Int) := by omega
            by_cases qlt : q < xs.length
            · have q1 : (q : Int) < (xs.length : Int) := by omega
              obtain ⟨ab, ap, haa, hx⟩ := HKIDS.out (by omega)
              obtain ⟨y0, y1, y2, y3, c0, c1, c2, c3, hr⟩ := hx q qlt
              obtain ⟨p2, an2, nn2, nc2, aa2, ac2, ex, hh2⟩ := hr.head
              cases ex
              have c0 := cell_keep c0 HI.out.pr.bw
              have c1 := cell_keep c1 HI.out.pr.bw
              have c2 := cell_keep c2 HI.out.pr.bw
              have c3 := cell_keep c3 HI.out.pr.bw
              have HNX := Lib.hid (HARG.out q qlt)
              have HLX := Lib.hid (HLA.out q qlt)
              obtain ⟨sp, hsp⟩ : ∃ z : ByteArray, ⟨(if nu.length + q = 0 then ([40] : List UInt8) else [44, 32]).toArray⟩ = z := ⟨_, rfl⟩
              have HSP : Hid (sp.data.toList = if nu.length + q = 0 then ([40] : List UInt8) else [44, 32]) := Lib.hid (by rw [← hsp])
              have HSZ : Hid (sp.size ≤ 2) := Lib.hid (by rw [← hsp, len_toArray]; split <;> simp)
              rw [hsp]
              rw [← HSP.out] at HNX
              clear hsp HSP hx hh2
              subst haa
              have HR := Lib.hid hr
              have HOY := Lib.hid (HOK.out _ (List.getElem_mem qlt))
              generalize xs[q] = y at HR HOY HNX HLX
              clear hr
              have HLT : Hid ((acc ++ PP (nu.length + q)).length + sp.size ≤ 140737488355328) := Lib.hid (by simp only [List.length_append]; have := HLX.out; have := HLEN.out; have := HSZ.out; omega)
              have HLY : Hid ((acc ++ PP (nu.length + q) ++ sp.data.toList).length + (Lx.lineX y).length ≤ 70368744177664) := Lib.hid (by
                have a := HLN.out (nu.length + q + 1)
                rw [HNX.out] at a
                simp only [List.length_append] at a ⊢
                have := HLEN.out
                omega)
              have HB2 : Hid (acc ++ PP (nu.length + q) ++ sp.data.toList ++ Lx.lineX y = acc ++ PP (nu.length + (q + 1))) := Lib.hid (by rw [← Nat.add_assoc, HNX.out]; simp only [List.append_assoc])
              obtain ⟨by_, hby⟩ : ∃ z, wr.heap.size = z := ⟨_, rfl⟩
              obtain ⟨wa, hwa⟩ : ∃ z, wr.alloc (.cells #[.int .u8 p2.op, .string p2.nm, .slice an2 nn2 nc2, .slice aa2 p2.k ac2] 25) = z := ⟨_, rfl⟩
              have KA : Below wr.heap.size wr wa := by rw [← hwa]; exact (Below.refl _ wr).alloc (Nat.le_refl _) _
              have HY : Hid (wa.heap[by_]? = some (.cells #[.int .u8 p2.op, .string p2.nm, .slice an2 nn2 nc2, .slice aa2 p2.k ac2] 25 (0, 0))) := Lib.hid (by rw [← hwa, ← hby]; exact al_new wr _)
              have HNB : Hid (by_ ≠ b) := Lib.hid (by have := HI.out.pr.lt; omega)
              have HI := Lib.hid (HI.out.keep KA)
              clear KA
              go_upto_region 16 with fail
              clear hwa hby c0 c1 c2 c3
              go_wp2_with fail
              (with_reducible refine (HS.out wa _ sp HI.out.pr HLT.out).mono ?_)
              rintro e w3 ⟨rfl, HP2, HK2⟩
              have HY := Lib.hid (ok_blk HK2.out HY.out (by decide) HNB.out)
              have HI := Lib.hid (HI.out.call HP2.out HK2.out)
              clear HP2 HK2
              have y0 := cell_blk HY.out 0
              have y1 := cell_blk HY.out 1
              have y2 := cell_blk HY.out 2
              have y3 := cell_blk HY.out 3
              have HC := Lib.hid (HK.out y _ _ w3 _ HR.out HOY.out HI.out.pr HLY.out)
              go_wp2_with fail
              (with_reducible refine HC.out.mono ?_)
              rintro e w4 ⟨rfl, HP2, HK2⟩
              have HI := Lib.hid (HI.out.call HP2.out HK2.out)
              rw [HB2.out] at HI
              clear HP2 HK2 HC y0 y1 y2 y3 HY
              go_wp2_with fail
              go_roundw
              case rel => exact ⟨q + 1, by omega, by go_num, by rw [if_neg (by omega)], HI⟩
              case measure => simp [intOf]; omega
            · have HQ : Hid (q = xs.length) := Lib.hid (by omega)
              have q1 : ¬ (q : Int) < (xs.length : Int) := by omega
              obtain ⟨sp, hsp⟩ : ∃ z : ByteArray, ⟨(if nu.length + q = 0 then ([40] : List UInt8) else [44, 32]).toArray⟩ = z := ⟨_, rfl⟩
              rw [hsp]
              clear hsp
              rw [HQ.out] at HI
              clear HQ
              have HLT : Hid ((acc ++ PP (nu.length + xs.length)).length + (⟨#[41]⟩ : ByteArray).size ≤ 140737488355328) := Lib.hid (by rw [show (⟨#[41]⟩ : ByteArray).size = 1 from rfl]; simp only [List.length_append]; have := HLN.out (nu.length + xs.length); have := HLEN.out; omega)
              have HB2 : Hid (acc ++ PP (nu.length + xs.length) ++ (⟨#[41]⟩ : ByteArray).data.toList = acc ++ LL) := Lib.hid (by rw [HLE.out]; simp)
              go_wp2_with fail
              (with_reducible refine (HS.out wr _ ⟨#[41]⟩ HI.out.pr HLT.out).mono ?_)
              rintro e w3 ⟨rfl, HP2, HK2⟩
              have HI := Lib.hid (HI.out.call HP2.out HK2.out)
              rw [HB2.out] at HI
              clear HP2 HK2
              go_wp2_with fail
              go_returns
              exact ⟨rfl, Lib.hid HI.out.pr, Lib.hid HI.out.ok⟩
end Go.Proofs.YtimjendkpjojoaaGreatDoor
