/- PrintParts, its walk. -/
import Derived.Test.YtimjendkpjojoaaDoorX12
import Derived.Test.YtimjendkpjojoaaDoorE21
namespace Go.Proofs.YtimjendkpjojoaaDoor
set_option linter.unusedVariables false
set_option linter.unusedSimpArgs false
open Go.ChangeShapes Go.WideShapes Go.ChangeAt Go.RowKit

structure Bq (w0 w : World) (b : Nat) (cs : Array Value) : Prop where
  bw : Below w0.heap.size w0 w
  box : w.heap[b]? = some (.cells cs 25 (0, 0))
theorem Bq.keep {w0 w w' : World} {b : Nat} {cs : Array Value} (h : Bq w0 w b cs) (q : Below w.heap.size w w') : Bq w0 w' b cs := ⟨h.bw.trans (q.mono h.bw.size), blk_below h.box q⟩
theorem cnt_mem : ∀ {xs : List Lx.Ex} {x : Lx.Ex}, x ∈ xs → Lx.cnt x ≤ Lx.cnts xs
  | y :: r, x, h => by
    rw [Lx.cnts]
    rcases List.mem_cons.1 h with rfl | h
    · omega
    · have := cnt_mem h; omega
theorem kid_right {w : World} {n : Nat} {v : Value} {op : Int} {nm : List UInt8} {nu : List Int} {xs : List Lx.Ex} (h : RightL (tour (.mk op nm nu xs) 1)) {y : Lx.Ex} (hy : y ∈ xs) (hE : ExAt w n v (tour y)) : RightL (tour y 1) := by
  have hs := ex_shift hE 1
  have e : Lx.cnt (.mk op nm nu xs) = 1 + Lx.cnts xs := by rw [Lx.cnt]
  have c := cnt_mem hy
  refine ⟨?_, fun z hz => ?_⟩
  · have a := h.1
    rw [cnt_len] at a ⊢
    omega
  · have hm : (z.1, z.2 + 1) ∈ tour (.mk op nm nu xs) 1 := by
      rw [tour]
      refine List.mem_cons_of_mem _ (tours_mem hy (1 + 1) ?_)
      rw [hs]
      exact List.mem_map.2 ⟨z, hz, rfl⟩
    have := h.2 _ hm
    exact ⟨by have := this.1; dsimp only at this; omega, this.2⟩
theorem join_pre (l : List (List UInt8)) : ∀ r : List (List UInt8), ∃ z, Lx.joinL (l ++ r) = Lx.joinL l ++ z := by
  intro r
  induction r generalizing l with
  | nil => exact ⟨[], by simp⟩
  | cons a r ih =>
    obtain ⟨z, hz⟩ := ih (l ++ [a])
    refine ⟨Lx.sepJ l ++ a ++ z, ?_⟩
    rw [show l ++ a :: r = (l ++ [a]) ++ r by simp, hz, Lx.join_snoc]
    simp only [List.append_assoc]
theorem preL_pre {o : Int} (h : ¬ o = 0) (nm : List UInt8) (nu : List Int) (xs : List Lx.Ex) (j : Nat) : ∃ z, Lx.lineX (.mk o nm nu xs) = Lx.preL o nu xs j ++ z := by
  obtain ⟨z, hz⟩ := join_pre ((Lx.itemsL nu xs).take j) ((Lx.itemsL nu xs).drop j)
  rw [List.take_append_drop] at hz
  refine ⟨z ++ [41], ?_⟩
  rw [Lx.line_op h, List.take_length, hz]
  unfold Lx.preL
  simp only [List.append_assoc]
theorem ext_mid (s t : ByteArray) (a b : List UInt8) (n : Nat) (h : s.data.toList = a ++ t.data.toList ++ b) (hn : a.length = n) : s.extract n (n + t.size) = t := by
  rw [Lib.extract_eq, h]
  apply ByteArray.ext
  apply Array.ext'
  subst hn
  rw [Lib.size_eq]
  simp [List.append_assoc]
set_option maxRecDepth 20000 in
set_option maxHeartbeats 4000000 in
theorem printParts_walk (n : Nat) (v : Value) (F : Tour) (w : World) (hT : Tp w) (hE0 : ExAt w n v F) :
    Calls Tryd.prog 4 #[v] w fun e w' => e = .returned (.bool true) ∧ Below w.heap.size w w' := by
  obtain ⟨x, rfl⟩ := tour_ex n v F hE0
  have HAW := Lib.hid (fun W (k : Below w.heap.size w W) => awake_any W (hT.keep k))
  have HCT := Lib.hid (fun W (k : Below w.heap.size w W) => count_any n v (tour x) W (hE0.keep k))
  obtain ⟨c, hc⟩ : ∃ y, (run cntW 0 (wl (tour x 1))).1 = y := ⟨_, rfl⟩
  rw [hc] at HCT
  obtain ⟨r, hr⟩ : ∃ r : Bool, r = true ↔ RightL (tour x 1) := by classical exact ⟨decide _, decide_eq_true_iff⟩
  have HRT := Lib.hid (fun W (k : Below w.heap.size w W) => right_any n v (tour x) W (hT.needs.keep k) (hE0.keep k) r hr)
  have HPE := Lib.hid (fun W (k : Below w.heap.size w W) => pexpr_any n v x W (hT.keep k) (hE0.keep k) r hr)
  have HR := Lib.hid hr
  have HE := Lib.hid hE0
  have HT := Lib.hid hT
  obtain ⟨op, nm, nu, xs⟩ := x
  obtain ⟨m, an, nn, nc, aa, ac, rfl, rfl, hd, hkids⟩ := ex_kids hE0
  have HD := Lib.hid hd
  have HKIDS := Lib.hid hkids
  have HNM : Hid (nm.length ≤ maxLen) := Lib.hid (by have := hd.nmle; rwa [len_toArray] at this)
  obtain ⟨nb, hnb⟩ : ∃ y : ByteArray, ⟨nm.toArray⟩ = y := ⟨_, rfl⟩
  have HNB := Lib.hid hnb
  rw [hnb] at HCT HRT HPE ⊢
  clear hc hr hE0 hT hd hkids hnb
  obtain ⟨bx, hbx⟩ : ∃ y, w.heap.size = y := ⟨_, rfl⟩
  obtain ⟨w1, hw1⟩ : ∃ y, w.alloc (.cells #[.int .u8 op, .string nb, .slice an nn nc, .slice aa xs.length ac] 25) = y := ⟨_, rfl⟩
  have HB : Hid (Bq w w1 bx #[.int .u8 op, .string nb, .slice an nn nc, .slice aa xs.length ac]) := Lib.hid ⟨by rw [← hw1]; exact (Below.refl _ w).alloc (Nat.le_refl _) _, by rw [← hw1, ← hbx, al_new]⟩
  have e0 := cell_blk HB.out.box 0
  have e1 := cell_blk HB.out.box 1
  have e2 := cell_blk HB.out.box 2
  have e3 := cell_blk HB.out.box 3
  go_enter Tryd.func4, Tryd.ntmps4
  go_upto_region 1 with fail
  clear hw1 hbx
  go_wp2_with fail
  (with_reducible refine (HCT.out _ HB.out.bw).mono ?_)
  rintro e w2 ⟨rfl, q⟩
  have HB := Lib.hid (HB.out.keep q)
  clear q HCT
  clear e0 e1 e2 e3
  have e0 := cell_blk HB.out.box 0
  have e1 := cell_blk HB.out.box 1
  have e2 := cell_blk HB.out.box 2
  have e3 := cell_blk HB.out.box 3
  by_cases c1 : (1000 : Int) < c
  · skip
    have HXA := Lib.hid (HAW.out _ HB.out.bw)
    go_wp2_with fail
    (with_reducible refine HXA.out.mono ?_)
    rintro e wz ⟨rfl, q⟩
    go_wp2_with fail
    go_returns
    exact ⟨rfl, HB.out.bw.trans (q.mono HB.out.bw.size)⟩
  · have c2 : decide ((1000 : Int) < c) = false := by simpa using c1
    go_wp2_with fail
    (with_reducible refine (HRT.out _ HB.out.bw).mono ?_)
    rintro e w3 ⟨rfl, q⟩
    have HB := Lib.hid (HB.out.keep q)
    clear q HRT
    clear e0 e1 e2 e3
    have e0 := cell_blk HB.out.box 0
    have e1 := cell_blk HB.out.box 1
    have e2 := cell_blk HB.out.box 2
    have e3 := cell_blk HB.out.box 3
    cases r
    · skip
      have HXA := Lib.hid (HAW.out _ HB.out.bw)
      go_wp2_with fail
      (with_reducible refine HXA.out.mono ?_)
      rintro e wz ⟨rfl, q⟩
      go_wp2_with fail
      go_returns
      exact ⟨rfl, HB.out.bw.trans (q.mono HB.out.bw.size)⟩
    · have HRC : RightL (tour (.mk op nm nu xs) 1) := by first | exact HR.out.1 rfl | exact HR.out rfl | exact HR.out | exact HR.out.1 trivial
      have HLEN := Lib.hid (right_len HE.out HRC)
      have HKR := Lib.hid (fun y hy n v (q : ExAt w n v (tour y)) => kid_right HRC (y := y) hy q)
      have HPX := Lib.hid (HPE.out _ HB.out.bw)
      rw [if_pos rfl, if_pos rfl] at HPX
      clear HR HRC HPE
      rcases HLEN.out.1 with ⟨rfl, rfl, rfl⟩ | ⟨h1, h2, rfl, h3, h4, h5⟩
      · rw [Lx.line_leaf, HNB.out] at HPX
        simp only [List.length_nil] at HPX HB e3
        clear HLEN HKR HKIDS
        go_wp2_with fail
        (with_reducible refine HPX.out.mono ?_)
        rintro e w4 ⟨rfl, q⟩
        have HB := Lib.hid (HB.out.keep q)
        clear q HPX
        clear e0 e1 e2 e3
        have e0 := cell_blk HB.out.box 0
        have e1 := cell_blk HB.out.box 1
        have e2 := cell_blk HB.out.box 2
        have e3 := cell_blk HB.out.box 3
        have HXA := Lib.hid (HAW.out _ HB.out.bw)
        go_wp2_with fail
        (with_reducible refine HXA.out.mono ?_)
        rintro e wz ⟨rfl, q⟩
        go_wp2_with fail
        go_returns
        exact ⟨rfl, HB.out.bw.trans (q.mono HB.out.bw.size)⟩
      · have hz : ¬ op = 0 := by omega
        have oz : (op == 0) = false := by simpa using hz
        have HLE := Lib.hid (Lx.line_end hz [] nu xs)
        have HARG := Lib.hid (fun j hj => Lx.preL_arg op nu xs j hj)
        have HPRE := Lib.hid (fun j => preL_pre hz [] nu xs j)
        have HPL := Lib.hid (fun j => Lx.preL_len hz [] nu xs j)
        obtain ⟨LL, hLL⟩ : ∃ L, Lx.lineX (.mk op [] nu xs) = L := ⟨_, rfl⟩
        rw [hLL] at HLE HLEN HPX HPRE HPL
        obtain ⟨PP, hPP⟩ : ∃ f : Nat → List UInt8, Lx.preL op nu xs = f := ⟨_, rfl⟩
        rw [hPP] at HLE HARG HPRE HPL
        obtain ⟨sb, hsb⟩ : ∃ y : ByteArray, ⟨LL.toArray⟩ = y := ⟨_, rfl⟩
        obtain ⟨E, hE⟩ : ∃ E, (PP (nu.length + xs.length)).length = E := ⟨_, rfl⟩
        have hsz : (sb.size : Int) = (E : Int) + 1 := by rw [← hsb, len_toArray, HLE.out, List.length_append, hE]; simp
        have hbE : E < sb.size := by omega
        have HLS : Hid (sb.data.toList = LL) := Lib.hid (by rw [← hsb])
        have hx41 : ((sb[E]'hbE).toNat : Int) = 41 := by
          have a : (sb[E]'hbE) = LL[E]'(by rw [← len_toArray, hsb]; exact hbE) := by subst hsb; rfl
          have b : LL[E]? = some 41 := by rw [HLE.out, List.getElem?_append_right (by omega), hE]; simp
          have d : LL[E]'(by rw [← len_toArray, hsb]; exact hbE) = 41 := by
            have := List.getElem?_eq_getElem (l := LL) (i := E) (by rw [← len_toArray, hsb]; exact hbE)
            rw [b] at this; exact (Option.some.inj this).symm
          rw [a, d]; rfl
        have HEL : Hid ((PP (nu.length + xs.length)).length = E) := Lib.hid hE
        have E0 : (0 : Int) ≤ (E : Int) := by omega
        have E1 : (E : Int) ≤ 400000 := by have := HLEN.out.2; rw [HLE.out, List.length_append, hE] at this; simp at this; omega
        have E2 : (E : Int) < (sb.size : Int) := by omega
        have k0 : (0 : Int) ≤ (xs.length : Int) := by omega
        have k1 : (xs.length : Int) ≤ 2 := by have := (nuN_le op.toNat (by omega)).2; omega
        rw [hsb] at HPX
        clear hLL hPP hsb hE h1 h2 h3 h4 h5 hz
        go_wp2_with fail
        (with_reducible refine HPX.out.mono ?_)
        rintro e w4 ⟨rfl, q⟩
        have HB := Lib.hid (HB.out.keep q)
        clear q HPX
        clear e0 e1 e2 e3
        have e0 := cell_blk HB.out.box 0
        have e1 := cell_blk HB.out.box 1
        have e2 := cell_blk HB.out.box 2
        have e3 := cell_blk HB.out.box 3
        go_upto_region 12 with fail
        clear e0 e1 e2 e3
        go_loopw [5, 6, 7, 8] (fun s5 s6 s7 s8 wr => ∃ (q : Nat) (E' : Int), q ≤ xs.length ∧ s6 = .int .i64 ((q : Int) - 1) ∧ s5 = .int .i64 E' ∧ Hid (q ≠ 0 → E' = ((PP (nu.length + q)).length : Int)) ∧ Hid (Bq w wr bx #[.int .u8 op, .string nb, .slice an nn nc, .slice aa xs.length ac])) (fun s5 s6 s7 s8 _ => (intOf s6 + 1).toNat)
        case atStart => exact ⟨xs.length, E, Nat.le_refl _, rfl, rfl, Lib.hid (fun _ => by rw [HEL.out]), HB⟩
        case round =>
          clear HB HEL
          obtain ⟨q, E', hq, rfl, rfl, HEQ, HB⟩ := hrel
          by_cases hq0 : q = 0
          · subst hq0
            clear HEQ
            have z1 : ¬ (0 : Int) ≤ ((0 : Nat) : Int) - 1 := by omega
            have HXA := Lib.hid (HAW.out _ HB.out.bw)
            go_wp2_with fail
            (with_reducible refine HXA.out.mono ?_)
            rintro e wz ⟨rfl, q⟩
            go_wp2_with fail
            go_returns
            exact ⟨rfl, HB.out.bw.trans (q.mono HB.out.bw.size)⟩
          · obtain ⟨p, rfl⟩ : ∃ p, q = p + 1 := ⟨q - 1, by omega⟩
            have plt : p < xs.length := by omega
            rw [show ((p + 1 : Nat) : Int) - 1 = (p : Int) by omega]
            have p0 : (0 : Int) ≤ (p : Int) := by omega
            have p1 : (p : Int) < (xs.length : Int) := by omega
            obtain ⟨ab, ap, haa, hx⟩ := HKIDS.out (by omega)
            obtain ⟨y0, y1, y2, y3, c0, c1, c2, c3, hr⟩ := hx p plt
            obtain ⟨p2, an2, nn2, nc2, aa2, ac2, ex, hh2⟩ := hr.head
            cases ex
            have c0 := cell_keep c0 HB.out.bw
            have c1 := cell_keep c1 HB.out.bw
            have c2 := cell_keep c2 HB.out.bw
            have c3 := cell_keep c3 HB.out.bw
            have HNX := Lib.hid (HARG.out p plt)
            have HPY := Lib.hid (pexpr_any m _ xs[p] wr (HT.out.keep HB.out.bw) (hr.keep HB.out.bw) true ⟨fun _ => HKR.out _ (List.getElem_mem plt) _ _ hr, fun _ => rfl⟩)
            rw [if_pos rfl, if_pos rfl] at HPY
            obtain ⟨zz, hzz⟩ := HPRE.out (nu.length + p + 1)
            have HPB := Lib.hid (HPL.out (nu.length + p + 1))
            have HE1 := Lib.hid (HEQ.out (by omega))
            generalize xs[p] = y at HPY HNX
            obtain ⟨sp, hsp⟩ : ∃ z, (if nu.length + p = 0 then ([40] : List UInt8) else [44, 32]) = z := ⟨_, rfl⟩
            have HS2 : Hid (p ≠ 0 → sp.length = 2) := Lib.hid (fun e => by rw [← hsp, if_neg (by omega)]; rfl)
            rw [hsp] at HNX
            obtain ⟨tb, htb⟩ : ∃ z : ByteArray, ⟨(Lx.lineX y).toArray⟩ = z := ⟨_, rfl⟩
            have HTB : Hid (tb.data.toList = Lx.lineX y) := Lib.hid (by rw [← htb])
            have HTS : Hid (tb.size = (Lx.lineX y).length) := Lib.hid (by rw [← htb, len_toArray])
            obtain ⟨lo, hlo⟩ : ∃ z, (PP (nu.length + p)).length + sp.length = z := ⟨_, rfl⟩
            have hE' : E' = (lo : Int) + (tb.size : Int) := by
              have a := HE1.out
              rw [← Nat.add_assoc, HNX.out] at a
              simp only [List.length_append] at a
              have := HTS.out
              omega
            have hex : sb.extract lo (lo + tb.size) = tb := ext_mid sb tb (PP (nu.length + p) ++ sp) zz lo (by rw [HLS.out, hzz, HNX.out, HTB.out]) (by rw [List.length_append]; exact hlo)
            have hle : lo + tb.size ≤ E := by
              have a := HPB.out
              rw [HNX.out] at a
              have b := congrArg List.length HLS.out
              rw [← Lib.size_eq] at b
              simp only [List.length_append] at a
              have := HTS.out
              omega
            have HLO : Hid (p ≠ 0 → (lo : Int) - 2 = ((PP (nu.length + p)).length : Int)) := Lib.hid (fun e => by have := HS2.out e; omega)
            subst hE'
            rw [htb] at HPY
            have l0 : (0 : Int) ≤ (lo : Int) := by omega
            have l1 : (0 : Int) ≤ (tb.size : Int) := by omega
            have l2 : (lo : Int) + (tb.size : Int) ≤ (E : Int) := by omega
            have l3 : ¬ (lo : Int) + (tb.size : Int) < (tb.size : Int) := by omega
            have l4 : ¬ (E : Int) + 1 < (lo : Int) + (tb.size : Int) := by omega
            have l5 : decide ((lo : Int) + (tb.size : Int) < (tb.size : Int)) = false := decide_eq_false l3
            have l6 : decide ((E : Int) + 1 < (lo : Int) + (tb.size : Int)) = false := decide_eq_false l4
            subst haa
            have e3 := cell_blk HB.out.box 3
            clear HEQ HE1 HNX HPB hzz hsp HS2 htb HTB HTS hlo hx hr hh2
            go_wp2_with fail
            (with_reducible refine HPY.out.mono ?_)
            rintro e w5 ⟨rfl, q⟩
            have HB := Lib.hid (HB.out.keep q)
            clear q HPY e3 c0 c1 c2 c3
            go_wp2_with fail
            go_roundw
            case rel => exact ⟨p, _, by omega, by go_num, rfl, Lib.hid (fun e => by have := HLO.out e; omega), HB⟩
            case measure => simp [intOf]
end Go.Proofs.YtimjendkpjojoaaDoor
