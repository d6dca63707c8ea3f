/- SpansLaws: the walk. -/
import Derived.Test.YthjpnnggghfepaaP2
namespace Go.Proofs.Ythjpnnggghfepaa
set_option linter.unusedVariables false
set_option linter.unusedSimpArgs false
open Go.ChangeShapes Go.WideShapes Go.ChangeAt Go.RowKit
set_option maxHeartbeats 4000000 in
set_option maxRecDepth 100000 in
theorem laws_law (A0 B0 C0 : Option Addr) (m1 m2 m3 d1 d2 d3 : Nat) (l1 l2 l3 : List Sp) (w : World) (h1 : SpAt w A0 m1 d1 l1) (h2 : SpAt w B0 m2 d2 l2) (h3 : SpAt w C0 m3 d3 l3) :
    Calls Try.prog 6 #[.slice A0 m1 d1, .slice B0 m2 d2, .slice C0 m3 d3] w fun e w' => e = .returned (.bool true) ∧ Below w.heap.size w w' := by
  go_enter Try.func6, Try.ntmps6
  go_wp2_with fail
  (with_reducible refine (made_any A0 m1 d1 l1 w h1).mono ?_); rintro e w1 ⟨ao, n1, c1, a, rfl, ga, e1, s1, q1⟩
  go_wp2_with fail
  (with_reducible refine (made_any B0 m2 d2 l2 w1 (h2.keep q1)).mono ?_); rintro e w2 ⟨bo, n2, c2, b, rfl, gb, e2, s2, q2⟩
  go_wp2_with fail
  (with_reducible refine (made_any C0 m3 d3 l3 w2 ((h3.keep q1).keep q2)).mono ?_); rintro e w3 ⟨co, n3, c3, c, rfl, gc, e3, s3, q3⟩
  have HT : Hid (Ws w w3 [(co, n3, c3, c), (bo, n2, c2, b), (ao, n1, c1, a)]) := Lib.hid (Ws.add (Ws.add (Ws.add ⟨Below.refl _ _, fun x hx => by cases hx⟩ q1 s1) q2 s2) q3 s3)
  have Ga := Lib.hid ga
  have Gb := Lib.hid gb
  have Gc := Lib.hid gc
  have ga0 := Ga
  have Na := Lib.hid e1
  have Nb := Lib.hid e2
  have Nc := Lib.hid e3
  clear s1 s2 s3 q1 q2 q3 h1 h2 h3 ga gb gc e1 e2 e3
  go_wp2_with fail
  (with_reducible refine (union_sp ao bo n1 c1 n2 c2 a b Ga.out Gb.out (by have := Na.out; omega) (by have := Nb.out; omega) _ (HT.out.at ao n1 c1 a (List.Mem.tail _ (List.Mem.tail _ (List.Mem.head _)))) (HT.out.at bo n2 c2 b (List.Mem.tail _ (List.Mem.head _)))).mono ?_)
  rintro e z ⟨ou1, nu1, cu1, u1, rfl, Hu1, q⟩
  have HT := Lib.hid (HT.out.add q Hu1.out.2.2.2)
  have Gu1 := Lib.hid Hu1.out.1
  have Mu1 := Lib.hid Hu1.out.2.1
  have Nu1 : Hid (nu1 ≤ 160) := Lib.hid (by have := Hu1.out.2.2.1; have := Na.out; have := Nb.out; omega)
  clear q Hu1
  go_wp2_with fail
  (with_reducible refine (union_sp bo ao n2 c2 n1 c1 b a Gb.out Ga.out (by have := Nb.out; omega) (by have := Na.out; omega) _ (HT.out.at bo n2 c2 b (List.Mem.tail _ (List.Mem.tail _ (List.Mem.head _)))) (HT.out.at ao n1 c1 a (List.Mem.tail _ (List.Mem.tail _ (List.Mem.tail _ (List.Mem.head _)))))).mono ?_)
  rintro e z ⟨ou2, nu2, cu2, u2, rfl, Hu2, q⟩
  have HT := Lib.hid (HT.out.add q Hu2.out.2.2.2)
  have Gu2 := Lib.hid Hu2.out.1
  have Mu2 := Lib.hid Hu2.out.2.1
  have Nu2 : Hid (nu2 ≤ 160) := Lib.hid (by have := Hu2.out.2.2.1; have := Nb.out; have := Na.out; omega)
  clear q Hu2
  go_wp2_with fail
  (with_reducible refine (same_any ou1 ou2 nu1 cu1 nu2 cu2 u1 u2 _ (HT.out.at ou1 nu1 cu1 u1 (List.Mem.tail _ (List.Mem.head _))) (HT.out.at ou2 nu2 cu2 u2 (List.Mem.head _)) true (by simp only [true_iff]; refine same_mem Gu1.out Gu2.out (fun t => ?_); rw [Mu1.out t, Mu2.out t]; by_cases p : mem a t <;> by_cases q : mem b t <;> by_cases r : mem c t <;> simp [p, q, r])).mono ?_)
  rintro e z ⟨rfl, q⟩
  have HT := Lib.hid (HT.out.keep q); clear q
  go_wp2_with fail
  (with_reducible refine (cut_sp ao bo n1 c1 n2 c2 a b Ga.out Gb.out (by have := Na.out; omega) (by have := Nb.out; omega) _ (HT.out.at ao n1 c1 a (List.Mem.tail _ (List.Mem.tail _ (List.Mem.tail _ (List.Mem.tail _ (List.Mem.head _)))))) (HT.out.at bo n2 c2 b (List.Mem.tail _ (List.Mem.tail _ (List.Mem.tail _ (List.Mem.head _)))))).mono ?_)
  rintro e z ⟨ou3, nu3, cu3, u3, rfl, Hu3, q⟩
  have HT := Lib.hid (HT.out.add q Hu3.out.2.2.2)
  have Gu3 := Lib.hid Hu3.out.1
  have Mu3 := Lib.hid Hu3.out.2.1
  have Nu3 : Hid (nu3 ≤ 160) := Lib.hid (by have := Hu3.out.2.2.1; have := Na.out; have := Nb.out; omega)
  clear q Hu3
  go_wp2_with fail
  (with_reducible refine (cut_sp bo ao n2 c2 n1 c1 b a Gb.out Ga.out (by have := Nb.out; omega) (by have := Na.out; omega) _ (HT.out.at bo n2 c2 b (List.Mem.tail _ (List.Mem.tail _ (List.Mem.tail _ (List.Mem.tail _ (List.Mem.head _)))))) (HT.out.at ao n1 c1 a (List.Mem.tail _ (List.Mem.tail _ (List.Mem.tail _ (List.Mem.tail _ (List.Mem.tail _ (List.Mem.head _)))))))).mono ?_)
  rintro e z ⟨ou4, nu4, cu4, u4, rfl, Hu4, q⟩
  have HT := Lib.hid (HT.out.add q Hu4.out.2.2.2)
  have Gu4 := Lib.hid Hu4.out.1
  have Mu4 := Lib.hid Hu4.out.2.1
  have Nu4 : Hid (nu4 ≤ 160) := Lib.hid (by have := Hu4.out.2.2.1; have := Nb.out; have := Na.out; omega)
  clear q Hu4
  go_wp2_with fail
  (with_reducible refine (same_any ou3 ou4 nu3 cu3 nu4 cu4 u3 u4 _ (HT.out.at ou3 nu3 cu3 u3 (List.Mem.tail _ (List.Mem.head _))) (HT.out.at ou4 nu4 cu4 u4 (List.Mem.head _)) true (by simp only [true_iff]; refine same_mem Gu3.out Gu4.out (fun t => ?_); rw [Mu3.out t, Mu4.out t]; by_cases p : mem a t <;> by_cases q : mem b t <;> by_cases r : mem c t <;> simp [p, q, r])).mono ?_)
  rintro e z ⟨rfl, q⟩
  have HT := Lib.hid (HT.out.keep q); clear q
  go_wp2_with fail
  (with_reducible refine (union_sp ao bo n1 c1 n2 c2 a b Ga.out Gb.out (by have := Na.out; omega) (by have := Nb.out; omega) _ (HT.out.at ao n1 c1 a (List.Mem.tail _ (List.Mem.tail _ (List.Mem.tail _ (List.Mem.tail _ (List.Mem.tail _ (List.Mem.tail _ (List.Mem.head _)))))))) (HT.out.at bo n2 c2 b (List.Mem.tail _ (List.Mem.tail _ (List.Mem.tail _ (List.Mem.tail _ (List.Mem.tail _ (List.Mem.head _)))))))).mono ?_)
  rintro e z ⟨ou5, nu5, cu5, u5, rfl, Hu5, q⟩
  have HT := Lib.hid (HT.out.add q Hu5.out.2.2.2)
  have Gu5 := Lib.hid Hu5.out.1
  have Mu5 := Lib.hid Hu5.out.2.1
  have Nu5 : Hid (nu5 ≤ 160) := Lib.hid (by have := Hu5.out.2.2.1; have := Na.out; have := Nb.out; omega)
  clear q Hu5
  go_wp2_with fail
  (with_reducible refine (union_sp ou5 co nu5 cu5 n3 c3 u5 c Gu5.out Gc.out (by have := Nu5.out; omega) (by have := Nc.out; omega) _ (HT.out.at ou5 nu5 cu5 u5 (List.Mem.head _)) (HT.out.at co n3 c3 c (List.Mem.tail _ (List.Mem.tail _ (List.Mem.tail _ (List.Mem.tail _ (List.Mem.tail _ (List.Mem.head _)))))))).mono ?_)
  rintro e z ⟨ou6, nu6, cu6, u6, rfl, Hu6, q⟩
  have HT := Lib.hid (HT.out.add q Hu6.out.2.2.2)
  have Gu6 := Lib.hid Hu6.out.1
  have Mu6 := Lib.hid Hu6.out.2.1
  have Nu6 : Hid (nu6 ≤ 400) := Lib.hid (by have := Hu6.out.2.2.1; have := Nu5.out; have := Nc.out; omega)
  clear q Hu6
  go_wp2_with fail
  (with_reducible refine (union_sp bo co n2 c2 n3 c3 b c Gb.out Gc.out (by have := Nb.out; omega) (by have := Nc.out; omega) _ (HT.out.at bo n2 c2 b (List.Mem.tail _ (List.Mem.tail _ (List.Mem.tail _ (List.Mem.tail _ (List.Mem.tail _ (List.Mem.tail _ (List.Mem.tail _ (List.Mem.head _))))))))) (HT.out.at co n3 c3 c (List.Mem.tail _ (List.Mem.tail _ (List.Mem.tail _ (List.Mem.tail _ (List.Mem.tail _ (List.Mem.tail _ (List.Mem.head _))))))))).mono ?_)
  rintro e z ⟨ou7, nu7, cu7, u7, rfl, Hu7, q⟩
  have HT := Lib.hid (HT.out.add q Hu7.out.2.2.2)
  have Gu7 := Lib.hid Hu7.out.1
  have Mu7 := Lib.hid Hu7.out.2.1
  have Nu7 : Hid (nu7 ≤ 160) := Lib.hid (by have := Hu7.out.2.2.1; have := Nb.out; have := Nc.out; omega)
  clear q Hu7
  go_wp2_with fail
  (with_reducible refine (union_sp ao ou7 n1 c1 nu7 cu7 a u7 Ga.out Gu7.out (by have := Na.out; omega) (by have := Nu7.out; omega) _ (HT.out.at ao n1 c1 a (List.Mem.tail _ (List.Mem.tail _ (List.Mem.tail _ (List.Mem.tail _ (List.Mem.tail _ (List.Mem.tail _ (List.Mem.tail _ (List.Mem.tail _ (List.Mem.tail _ (List.Mem.head _))))))))))) (HT.out.at ou7 nu7 cu7 u7 (List.Mem.head _))).mono ?_)
  rintro e z ⟨ou8, nu8, cu8, u8, rfl, Hu8, q⟩
  have HT := Lib.hid (HT.out.add q Hu8.out.2.2.2)
  have Gu8 := Lib.hid Hu8.out.1
  have Mu8 := Lib.hid Hu8.out.2.1
  have Nu8 : Hid (nu8 ≤ 400) := Lib.hid (by have := Hu8.out.2.2.1; have := Na.out; have := Nu7.out; omega)
  clear q Hu8
  go_wp2_with fail
  (with_reducible refine (same_any ou6 ou8 nu6 cu6 nu8 cu8 u6 u8 _ (HT.out.at ou6 nu6 cu6 u6 (List.Mem.tail _ (List.Mem.tail _ (List.Mem.head _)))) (HT.out.at ou8 nu8 cu8 u8 (List.Mem.head _)) true (by simp only [true_iff]; refine same_mem Gu6.out Gu8.out (fun t => ?_); rw [Mu6.out t, Mu8.out t, Mu5.out t, Mu7.out t]; by_cases p : mem a t <;> by_cases q : mem b t <;> by_cases r : mem c t <;> simp [p, q, r])).mono ?_)
  rintro e z ⟨rfl, q⟩
  have HT := Lib.hid (HT.out.keep q); clear q
  go_wp2_with fail
  (with_reducible refine (union_sp bo co n2 c2 n3 c3 b c Gb.out Gc.out (by have := Nb.out; omega) (by have := Nc.out; omega) _ (HT.out.at bo n2 c2 b (List.Mem.tail _ (List.Mem.tail _ (List.Mem.tail _ (List.Mem.tail _ (List.Mem.tail _ (List.Mem.tail _ (List.Mem.tail _ (List.Mem.tail _ (List.Mem.tail _ (List.Mem.head _))))))))))) (HT.out.at co n3 c3 c (List.Mem.tail _ (List.Mem.tail _ (List.Mem.tail _ (List.Mem.tail _ (List.Mem.tail _ (List.Mem.tail _ (List.Mem.tail _ (List.Mem.tail _ (List.Mem.head _))))))))))).mono ?_)
  rintro e z ⟨ou9, nu9, cu9, u9, rfl, Hu9, q⟩
  have HT := Lib.hid (HT.out.add q Hu9.out.2.2.2)
  have Gu9 := Lib.hid Hu9.out.1
  have Mu9 := Lib.hid Hu9.out.2.1
  have Nu9 : Hid (nu9 ≤ 160) := Lib.hid (by have := Hu9.out.2.2.1; have := Nb.out; have := Nc.out; omega)
  clear q Hu9
  go_wp2_with fail
  (with_reducible refine (cut_sp ao ou9 n1 c1 nu9 cu9 a u9 Ga.out Gu9.out (by have := Na.out; omega) (by have := Nu9.out; omega) _ (HT.out.at ao n1 c1 a (List.Mem.tail _ (List.Mem.tail _ (List.Mem.tail _ (List.Mem.tail _ (List.Mem.tail _ (List.Mem.tail _ (List.Mem.tail _ (List.Mem.tail _ (List.Mem.tail _ (List.Mem.tail _ (List.Mem.tail _ (List.Mem.head _))))))))))))) (HT.out.at ou9 nu9 cu9 u9 (List.Mem.head _))).mono ?_)
  rintro e z ⟨ov1, nv1, cv1, v1, rfl, Hv1, q⟩
  have HT := Lib.hid (HT.out.add q Hv1.out.2.2.2)
  have Gv1 := Lib.hid Hv1.out.1
  have Mv1 := Lib.hid Hv1.out.2.1
  have Nv1 : Hid (nv1 ≤ 400) := Lib.hid (by have := Hv1.out.2.2.1; have := Na.out; have := Nu9.out; omega)
  clear q Hv1
  go_wp2_with fail
  (with_reducible refine (cut_sp ao bo n1 c1 n2 c2 a b Ga.out Gb.out (by have := Na.out; omega) (by have := Nb.out; omega) _ (HT.out.at ao n1 c1 a (List.Mem.tail _ (List.Mem.tail _ (List.Mem.tail _ (List.Mem.tail _ (List.Mem.tail _ (List.Mem.tail _ (List.Mem.tail _ (List.Mem.tail _ (List.Mem.tail _ (List.Mem.tail _ (List.Mem.tail _ (List.Mem.tail _ (List.Mem.head _)))))))))))))) (HT.out.at bo n2 c2 b (List.Mem.tail _ (List.Mem.tail _ (List.Mem.tail _ (List.Mem.tail _ (List.Mem.tail _ (List.Mem.tail _ (List.Mem.tail _ (List.Mem.tail _ (List.Mem.tail _ (List.Mem.tail _ (List.Mem.tail _ (List.Mem.head _)))))))))))))).mono ?_)
  rintro e z ⟨ov2, nv2, cv2, v2, rfl, Hv2, q⟩
  have HT := Lib.hid (HT.out.add q Hv2.out.2.2.2)
  have Gv2 := Lib.hid Hv2.out.1
  have Mv2 := Lib.hid Hv2.out.2.1
  have Nv2 : Hid (nv2 ≤ 160) := Lib.hid (by have := Hv2.out.2.2.1; have := Na.out; have := Nb.out; omega)
  clear q Hv2
  go_wp2_with fail
  (with_reducible refine (cut_sp ao co n1 c1 n3 c3 a c Ga.out Gc.out (by have := Na.out; omega) (by have := Nc.out; omega) _ (HT.out.at ao n1 c1 a (List.Mem.tail _ (List.Mem.tail _ (List.Mem.tail _ (List.Mem.tail _ (List.Mem.tail _ (List.Mem.tail _ (List.Mem.tail _ (List.Mem.tail _ (List.Mem.tail _ (List.Mem.tail _ (List.Mem.tail _ (List.Mem.tail _ (List.Mem.tail _ (List.Mem.head _))))))))))))))) (HT.out.at co n3 c3 c (List.Mem.tail _ (List.Mem.tail _ (List.Mem.tail _ (List.Mem.tail _ (List.Mem.tail _ (List.Mem.tail _ (List.Mem.tail _ (List.Mem.tail _ (List.Mem.tail _ (List.Mem.tail _ (List.Mem.tail _ (List.Mem.head _)))))))))))))).mono ?_)
  rintro e z ⟨ov3, nv3, cv3, v3, rfl, Hv3, q⟩
  have HT := Lib.hid (HT.out.add q Hv3.out.2.2.2)
  have Gv3 := Lib.hid Hv3.out.1
  have Mv3 := Lib.hid Hv3.out.2.1
  have Nv3 : Hid (nv3 ≤ 160) := Lib.hid (by have := Hv3.out.2.2.1; have := Na.out; have := Nc.out; omega)
  clear q Hv3
  go_wp2_with fail
  (with_reducible refine (union_sp ov2 ov3 nv2 cv2 nv3 cv3 v2 v3 Gv2.out Gv3.out (by have := Nv2.out; omega) (by have := Nv3.out; omega) _ (HT.out.at ov2 nv2 cv2 v2 (List.Mem.tail _ (List.Mem.head _))) (HT.out.at ov3 nv3 cv3 v3 (List.Mem.head _))).mono ?_)
  rintro e z ⟨ov4, nv4, cv4, v4, rfl, Hv4, q⟩
  have HT := Lib.hid (HT.out.add q Hv4.out.2.2.2)
  have Gv4 := Lib.hid Hv4.out.1
  have Mv4 := Lib.hid Hv4.out.2.1
  have Nv4 : Hid (nv4 ≤ 640) := Lib.hid (by have := Hv4.out.2.2.1; have := Nv2.out; have := Nv3.out; omega)
  clear q Hv4
  go_wp2_with fail
  (with_reducible refine (same_any ov1 ov4 nv1 cv1 nv4 cv4 v1 v4 _ (HT.out.at ov1 nv1 cv1 v1 (List.Mem.tail _ (List.Mem.tail _ (List.Mem.tail _ (List.Mem.head _))))) (HT.out.at ov4 nv4 cv4 v4 (List.Mem.head _)) true (by simp only [true_iff]; refine same_mem Gv1.out Gv4.out (fun t => ?_); rw [Mv1.out t, Mv4.out t, Mu9.out t, Mv2.out t, Mv3.out t]; by_cases p : mem a t <;> by_cases q : mem b t <;> by_cases r : mem c t <;> simp [p, q, r])).mono ?_)
  rintro e z ⟨rfl, q⟩
  have HT := Lib.hid (HT.out.keep q); clear q
  go_wp2_with fail
  (with_reducible refine (union_sp bo co n2 c2 n3 c3 b c Gb.out Gc.out (by have := Nb.out; omega) (by have := Nc.out; omega) _ (HT.out.at bo n2 c2 b (List.Mem.tail _ (List.Mem.tail _ (List.Mem.tail _ (List.Mem.tail _ (List.Mem.tail _ (List.Mem.tail _ (List.Mem.tail _ (List.Mem.tail _ (List.Mem.tail _ (List.Mem.tail _ (List.Mem.tail _ (List.Mem.tail _ (List.Mem.tail _ (List.Mem.tail _ (List.Mem.head _)))))))))))))))) (HT.out.at co n3 c3 c (List.Mem.tail _ (List.Mem.tail _ (List.Mem.tail _ (List.Mem.tail _ (List.Mem.tail _ (List.Mem.tail _ (List.Mem.tail _ (List.Mem.tail _ (List.Mem.tail _ (List.Mem.tail _ (List.Mem.tail _ (List.Mem.tail _ (List.Mem.tail _ (List.Mem.head _)))))))))))))))).mono ?_)
  rintro e z ⟨ov5, nv5, cv5, v5, rfl, Hv5, q⟩
  have HT := Lib.hid (HT.out.add q Hv5.out.2.2.2)
  have Gv5 := Lib.hid Hv5.out.1
  have Mv5 := Lib.hid Hv5.out.2.1
  have Nv5 : Hid (nv5 ≤ 160) := Lib.hid (by have := Hv5.out.2.2.1; have := Nb.out; have := Nc.out; omega)
  clear q Hv5
  go_wp2_with fail
  (with_reducible refine (less_sp ao ov5 n1 c1 nv5 cv5 a v5 Ga.out Gv5.out (by have := Na.out; omega) (by have := Nv5.out; omega) _ (HT.out.at ao n1 c1 a (List.Mem.tail _ (List.Mem.tail _ (List.Mem.tail _ (List.Mem.tail _ (List.Mem.tail _ (List.Mem.tail _ (List.Mem.tail _ (List.Mem.tail _ (List.Mem.tail _ (List.Mem.tail _ (List.Mem.tail _ (List.Mem.tail _ (List.Mem.tail _ (List.Mem.tail _ (List.Mem.tail _ (List.Mem.tail _ (List.Mem.head _)))))))))))))))))) (HT.out.at ov5 nv5 cv5 v5 (List.Mem.head _))).mono ?_)
  rintro e z ⟨ov6, nv6, cv6, v6, rfl, Hv6, q⟩
  have HT := Lib.hid (HT.out.add q Hv6.out.2.2.2)
  have Gv6 := Lib.hid Hv6.out.1
  have Mv6 := Lib.hid Hv6.out.2.1
  have Nv6 : Hid (nv6 ≤ 400) := Lib.hid (by have := Hv6.out.2.2.1; have := Na.out; have := Nv5.out; omega)
  clear q Hv6
  go_wp2_with fail
  (with_reducible refine (less_sp ao bo n1 c1 n2 c2 a b Ga.out Gb.out (by have := Na.out; omega) (by have := Nb.out; omega) _ (HT.out.at ao n1 c1 a (List.Mem.tail _ (List.Mem.tail _ (List.Mem.tail _ (List.Mem.tail _ (List.Mem.tail _ (List.Mem.tail _ (List.Mem.tail _ (List.Mem.tail _ (List.Mem.tail _ (List.Mem.tail _ (List.Mem.tail _ (List.Mem.tail _ (List.Mem.tail _ (List.Mem.tail _ (List.Mem.tail _ (List.Mem.tail _ (List.Mem.tail _ (List.Mem.head _))))))))))))))))))) (HT.out.at bo n2 c2 b (List.Mem.tail _ (List.Mem.tail _ (List.Mem.tail _ (List.Mem.tail _ (List.Mem.tail _ (List.Mem.tail _ (List.Mem.tail _ (List.Mem.tail _ (List.Mem.tail _ (List.Mem.tail _ (List.Mem.tail _ (List.Mem.tail _ (List.Mem.tail _ (List.Mem.tail _ (List.Mem.tail _ (List.Mem.tail _ (List.Mem.head _))))))))))))))))))).mono ?_)
  rintro e z ⟨ov7, nv7, cv7, v7, rfl, Hv7, q⟩
  have HT := Lib.hid (HT.out.add q Hv7.out.2.2.2)
  have Gv7 := Lib.hid Hv7.out.1
  have Mv7 := Lib.hid Hv7.out.2.1
  have Nv7 : Hid (nv7 ≤ 160) := Lib.hid (by have := Hv7.out.2.2.1; have := Na.out; have := Nb.out; omega)
  clear q Hv7
  go_wp2_with fail
  (with_reducible refine (less_sp ov7 co nv7 cv7 n3 c3 v7 c Gv7.out Gc.out (by have := Nv7.out; omega) (by have := Nc.out; omega) _ (HT.out.at ov7 nv7 cv7 v7 (List.Mem.head _)) (HT.out.at co n3 c3 c (List.Mem.tail _ (List.Mem.tail _ (List.Mem.tail _ (List.Mem.tail _ (List.Mem.tail _ (List.Mem.tail _ (List.Mem.tail _ (List.Mem.tail _ (List.Mem.tail _ (List.Mem.tail _ (List.Mem.tail _ (List.Mem.tail _ (List.Mem.tail _ (List.Mem.tail _ (List.Mem.tail _ (List.Mem.tail _ (List.Mem.head _))))))))))))))))))).mono ?_)
  rintro e z ⟨ov8, nv8, cv8, v8, rfl, Hv8, q⟩
  have HT := Lib.hid (HT.out.add q Hv8.out.2.2.2)
  have Gv8 := Lib.hid Hv8.out.1
  have Mv8 := Lib.hid Hv8.out.2.1
  have Nv8 : Hid (nv8 ≤ 400) := Lib.hid (by have := Hv8.out.2.2.1; have := Nv7.out; have := Nc.out; omega)
  clear q Hv8
  go_wp2_with fail
  (with_reducible refine (same_any ov6 ov8 nv6 cv6 nv8 cv8 v6 v8 _ (HT.out.at ov6 nv6 cv6 v6 (List.Mem.tail _ (List.Mem.tail _ (List.Mem.head _)))) (HT.out.at ov8 nv8 cv8 v8 (List.Mem.head _)) true (by simp only [true_iff]; refine same_mem Gv6.out Gv8.out (fun t => ?_); rw [Mv6.out t, Mv8.out t, Mv5.out t, Mv7.out t]; by_cases p : mem a t <;> by_cases q : mem b t <;> by_cases r : mem c t <;> simp [p, q, r])).mono ?_)
  rintro e z ⟨rfl, q⟩
  have HT := Lib.hid (HT.out.keep q); clear q
  go_wp2_with fail
  (with_reducible refine (less_sp ao bo n1 c1 n2 c2 a b Ga.out Gb.out (by have := Na.out; omega) (by have := Nb.out; omega) _ (HT.out.at ao n1 c1 a (List.Mem.tail _ (List.Mem.tail _ (List.Mem.tail _ (List.Mem.tail _ (List.Mem.tail _ (List.Mem.tail _ (List.Mem.tail _ (List.Mem.tail _ (List.Mem.tail _ (List.Mem.tail _ (List.Mem.tail _ (List.Mem.tail _ (List.Mem.tail _ (List.Mem.tail _ (List.Mem.tail _ (List.Mem.tail _ (List.Mem.tail _ (List.Mem.tail _ (List.Mem.tail _ (List.Mem.head _))))))))))))))))))))) (HT.out.at bo n2 c2 b (List.Mem.tail _ (List.Mem.tail _ (List.Mem.tail _ (List.Mem.tail _ (List.Mem.tail _ (List.Mem.tail _ (List.Mem.tail _ (List.Mem.tail _ (List.Mem.tail _ (List.Mem.tail _ (List.Mem.tail _ (List.Mem.tail _ (List.Mem.tail _ (List.Mem.tail _ (List.Mem.tail _ (List.Mem.tail _ (List.Mem.tail _ (List.Mem.tail _ (List.Mem.head _))))))))))))))))))))).mono ?_)
  rintro e z ⟨ole, nle, cle, le, rfl, Hle, q⟩
  have HT := Lib.hid (HT.out.add q Hle.out.2.2.2)
  have Gle := Lib.hid Hle.out.1
  have Mle := Lib.hid Hle.out.2.1
  have Nle : Hid (nle ≤ 160) := Lib.hid (by have := Hle.out.2.2.1; have := Na.out; have := Nb.out; omega)
  clear q Hle
  go_wp2_with fail
  (with_reducible refine (cut_sp ao bo n1 c1 n2 c2 a b Ga.out Gb.out (by have := Na.out; omega) (by have := Nb.out; omega) _ (HT.out.at ao n1 c1 a (List.Mem.tail _ (List.Mem.tail _ (List.Mem.tail _ (List.Mem.tail _ (List.Mem.tail _ (List.Mem.tail _ (List.Mem.tail _ (List.Mem.tail _ (List.Mem.tail _ (List.Mem.tail _ (List.Mem.tail _ (List.Mem.tail _ (List.Mem.tail _ (List.Mem.tail _ (List.Mem.tail _ (List.Mem.tail _ (List.Mem.tail _ (List.Mem.tail _ (List.Mem.tail _ (List.Mem.tail _ (List.Mem.head _)))))))))))))))))))))) (HT.out.at bo n2 c2 b (List.Mem.tail _ (List.Mem.tail _ (List.Mem.tail _ (List.Mem.tail _ (List.Mem.tail _ (List.Mem.tail _ (List.Mem.tail _ (List.Mem.tail _ (List.Mem.tail _ (List.Mem.tail _ (List.Mem.tail _ (List.Mem.tail _ (List.Mem.tail _ (List.Mem.tail _ (List.Mem.tail _ (List.Mem.tail _ (List.Mem.tail _ (List.Mem.tail _ (List.Mem.tail _ (List.Mem.head _)))))))))))))))))))))).mono ?_)
  rintro e z ⟨ocu, ncu, ccu, cu, rfl, Hcu, q⟩
  have HT := Lib.hid (HT.out.add q Hcu.out.2.2.2)
  have Gcu := Lib.hid Hcu.out.1
  have Mcu := Lib.hid Hcu.out.2.1
  have Ncu : Hid (ncu ≤ 160) := Lib.hid (by have := Hcu.out.2.2.1; have := Na.out; have := Nb.out; omega)
  clear q Hcu
  go_wp2_with fail
  (with_reducible refine (meet_any ole bo nle cle n2 c2 le b _ (HT.out.at ole nle cle le (List.Mem.tail _ (List.Mem.head _))) (HT.out.at bo n2 c2 b (List.Mem.tail _ (List.Mem.tail _ (List.Mem.tail _ (List.Mem.tail _ (List.Mem.tail _ (List.Mem.tail _ (List.Mem.tail _ (List.Mem.tail _ (List.Mem.tail _ (List.Mem.tail _ (List.Mem.tail _ (List.Mem.tail _ (List.Mem.tail _ (List.Mem.tail _ (List.Mem.tail _ (List.Mem.tail _ (List.Mem.tail _ (List.Mem.tail _ (List.Mem.tail _ (List.Mem.tail _ (List.Mem.head _)))))))))))))))))))))) Gle.out Gb.out (by have := Nle.out; omega) (by have := Nb.out; omega) false (⟨(fun h => by cases h), fun ⟨t, h1, h2⟩ => absurd h2 ((Mle.out t).1 h1).2⟩)).mono ?_)
  rintro e z ⟨rfl, q⟩
  have HT := Lib.hid (HT.out.keep q); clear q
  go_wp2_with fail
  (with_reducible refine (count_v ole nle cle le _ (HT.out.at ole nle cle le (List.Mem.tail _ (List.Mem.head _))) Gle.out).mono ?_)
  rintro e z ⟨x1, rfl, Hx1, q⟩
  have HT := Lib.hid (HT.out.keep q); clear q
  obtain ⟨hx1, bx1⟩ := Hx1
  go_wp2_with fail
  (with_reducible refine (count_v ocu ncu ccu cu _ (HT.out.at ocu ncu ccu cu (List.Mem.head _)) Gcu.out).mono ?_)
  rintro e z ⟨x2, rfl, Hx2, q⟩
  have HT := Lib.hid (HT.out.keep q); clear q
  obtain ⟨hx2, bx2⟩ := Hx2
  go_wp2_with fail
  (with_reducible refine (count_v ao n1 c1 a _ (HT.out.at ao n1 c1 a (List.Mem.tail _ (List.Mem.tail _ (List.Mem.tail _ (List.Mem.tail _ (List.Mem.tail _ (List.Mem.tail _ (List.Mem.tail _ (List.Mem.tail _ (List.Mem.tail _ (List.Mem.tail _ (List.Mem.tail _ (List.Mem.tail _ (List.Mem.tail _ (List.Mem.tail _ (List.Mem.tail _ (List.Mem.tail _ (List.Mem.tail _ (List.Mem.tail _ (List.Mem.tail _ (List.Mem.tail _ (List.Mem.tail _ (List.Mem.head _))))))))))))))))))))))) Ga.out).mono ?_)
  rintro e z ⟨x3, rfl, Hx3, q⟩
  have HT := Lib.hid (HT.out.keep q); clear q
  obtain ⟨hx3, bx3⟩ := Hx3
  have t1 : (x1 + x2 != x3) = false := by
    have h := count_sum Gle.out Gcu.out ga0.out trivial (d := []) (c := a) (fun t => by rw [Mle.out t, Mcu.out t]; by_cases p : mem a t <;> by_cases q : mem b t <;> simp [p, q, mem_nil])
    have := hx1.out; have := hx2.out; have := hx3.out; simp only [count] at h; simp; omega
  go_wp2_with fail
  (with_reducible refine (union_sp ao bo n1 c1 n2 c2 a b Ga.out Gb.out (by have := Na.out; omega) (by have := Nb.out; omega) _ (HT.out.at ao n1 c1 a (List.Mem.tail _ (List.Mem.tail _ (List.Mem.tail _ (List.Mem.tail _ (List.Mem.tail _ (List.Mem.tail _ (List.Mem.tail _ (List.Mem.tail _ (List.Mem.tail _ (List.Mem.tail _ (List.Mem.tail _ (List.Mem.tail _ (List.Mem.tail _ (List.Mem.tail _ (List.Mem.tail _ (List.Mem.tail _ (List.Mem.tail _ (List.Mem.tail _ (List.Mem.tail _ (List.Mem.tail _ (List.Mem.tail _ (List.Mem.head _))))))))))))))))))))))) (HT.out.at bo n2 c2 b (List.Mem.tail _ (List.Mem.tail _ (List.Mem.tail _ (List.Mem.tail _ (List.Mem.tail _ (List.Mem.tail _ (List.Mem.tail _ (List.Mem.tail _ (List.Mem.tail _ (List.Mem.tail _ (List.Mem.tail _ (List.Mem.tail _ (List.Mem.tail _ (List.Mem.tail _ (List.Mem.tail _ (List.Mem.tail _ (List.Mem.tail _ (List.Mem.tail _ (List.Mem.tail _ (List.Mem.tail _ (List.Mem.head _))))))))))))))))))))))).mono ?_)
  rintro e z ⟨oun, nun, cun, un, rfl, Hun, q⟩
  have HT := Lib.hid (HT.out.add q Hun.out.2.2.2)
  have Gun := Lib.hid Hun.out.1
  have Mun := Lib.hid Hun.out.2.1
  have Nun : Hid (nun ≤ 160) := Lib.hid (by have := Hun.out.2.2.1; have := Na.out; have := Nb.out; omega)
  clear q Hun
  go_wp2_with fail
  (with_reducible refine (count_v oun nun cun un _ (HT.out.at oun nun cun un (List.Mem.head _)) Gun.out).mono ?_)
  rintro e z ⟨x4, rfl, Hx4, q⟩
  have HT := Lib.hid (HT.out.keep q); clear q
  obtain ⟨hx4, bx4⟩ := Hx4
  go_wp2_with fail
  (with_reducible refine (count_v ocu ncu ccu cu _ (HT.out.at ocu ncu ccu cu (List.Mem.tail _ (List.Mem.head _))) Gcu.out).mono ?_)
  rintro e z ⟨x5, rfl, Hx5, q⟩
  have HT := Lib.hid (HT.out.keep q); clear q
  obtain ⟨hx5, bx5⟩ := Hx5
  go_wp2_with fail
  (with_reducible refine (count_v ao n1 c1 a _ (HT.out.at ao n1 c1 a (List.Mem.tail _ (List.Mem.tail _ (List.Mem.tail _ (List.Mem.tail _ (List.Mem.tail _ (List.Mem.tail _ (List.Mem.tail _ (List.Mem.tail _ (List.Mem.tail _ (List.Mem.tail _ (List.Mem.tail _ (List.Mem.tail _ (List.Mem.tail _ (List.Mem.tail _ (List.Mem.tail _ (List.Mem.tail _ (List.Mem.tail _ (List.Mem.tail _ (List.Mem.tail _ (List.Mem.tail _ (List.Mem.tail _ (List.Mem.tail _ (List.Mem.head _)))))))))))))))))))))))) Ga.out).mono ?_)
  rintro e z ⟨x6, rfl, Hx6, q⟩
  have HT := Lib.hid (HT.out.keep q); clear q
  obtain ⟨hx6, bx6⟩ := Hx6
  go_wp2_with fail
  (with_reducible refine (count_v bo n2 c2 b _ (HT.out.at bo n2 c2 b (List.Mem.tail _ (List.Mem.tail _ (List.Mem.tail _ (List.Mem.tail _ (List.Mem.tail _ (List.Mem.tail _ (List.Mem.tail _ (List.Mem.tail _ (List.Mem.tail _ (List.Mem.tail _ (List.Mem.tail _ (List.Mem.tail _ (List.Mem.tail _ (List.Mem.tail _ (List.Mem.tail _ (List.Mem.tail _ (List.Mem.tail _ (List.Mem.tail _ (List.Mem.tail _ (List.Mem.tail _ (List.Mem.tail _ (List.Mem.head _))))))))))))))))))))))) Gb.out).mono ?_)
  rintro e z ⟨x7, rfl, Hx7, q⟩
  have HT := Lib.hid (HT.out.keep q); clear q
  obtain ⟨hx7, bx7⟩ := Hx7
  have t2 : (x4 + x5 != x6 + x7) = false := by
    have h := count_sum Gun.out Gcu.out Ga.out Gb.out (fun t => by rw [Mun.out t, Mcu.out t]; by_cases p : mem a t <;> by_cases q : mem b t <;> simp [p, q])
    have := hx4.out; have := hx5.out; have := hx6.out; have := hx7.out; simp; omega
  go_wp2_with fail
  (with_reducible refine (within_any ocu ao ncu ccu n1 c1 cu a _ (HT.out.at ocu ncu ccu cu (List.Mem.tail _ (List.Mem.head _))) (HT.out.at ao n1 c1 a (List.Mem.tail _ (List.Mem.tail _ (List.Mem.tail _ (List.Mem.tail _ (List.Mem.tail _ (List.Mem.tail _ (List.Mem.tail _ (List.Mem.tail _ (List.Mem.tail _ (List.Mem.tail _ (List.Mem.tail _ (List.Mem.tail _ (List.Mem.tail _ (List.Mem.tail _ (List.Mem.tail _ (List.Mem.tail _ (List.Mem.tail _ (List.Mem.tail _ (List.Mem.tail _ (List.Mem.tail _ (List.Mem.tail _ (List.Mem.tail _ (List.Mem.head _)))))))))))))))))))))))) Gcu.out Ga.out (by have := Na.out; omega) true (by simp only [true_iff]; intro t h; exact ((Mcu.out t).1 h).1)).mono ?_)
  rintro e z ⟨rfl, q⟩
  have HT := Lib.hid (HT.out.keep q); clear q
  go_wp2_with fail
  (with_reducible refine (union_sp ao bo n1 c1 n2 c2 a b Ga.out Gb.out (by have := Na.out; omega) (by have := Nb.out; omega) _ (HT.out.at ao n1 c1 a (List.Mem.tail _ (List.Mem.tail _ (List.Mem.tail _ (List.Mem.tail _ (List.Mem.tail _ (List.Mem.tail _ (List.Mem.tail _ (List.Mem.tail _ (List.Mem.tail _ (List.Mem.tail _ (List.Mem.tail _ (List.Mem.tail _ (List.Mem.tail _ (List.Mem.tail _ (List.Mem.tail _ (List.Mem.tail _ (List.Mem.tail _ (List.Mem.tail _ (List.Mem.tail _ (List.Mem.tail _ (List.Mem.tail _ (List.Mem.tail _ (List.Mem.head _)))))))))))))))))))))))) (HT.out.at bo n2 c2 b (List.Mem.tail _ (List.Mem.tail _ (List.Mem.tail _ (List.Mem.tail _ (List.Mem.tail _ (List.Mem.tail _ (List.Mem.tail _ (List.Mem.tail _ (List.Mem.tail _ (List.Mem.tail _ (List.Mem.tail _ (List.Mem.tail _ (List.Mem.tail _ (List.Mem.tail _ (List.Mem.tail _ (List.Mem.tail _ (List.Mem.tail _ (List.Mem.tail _ (List.Mem.tail _ (List.Mem.tail _ (List.Mem.tail _ (List.Mem.head _)))))))))))))))))))))))).mono ?_)
  rintro e z ⟨ow1, nw1, cw1, w1, rfl, Hw1, q⟩
  have HT := Lib.hid (HT.out.add q Hw1.out.2.2.2)
  have Gw1 := Lib.hid Hw1.out.1
  have Mw1 := Lib.hid Hw1.out.2.1
  have Nw1 : Hid (nw1 ≤ 160) := Lib.hid (by have := Hw1.out.2.2.1; have := Na.out; have := Nb.out; omega)
  clear q Hw1
  go_wp2_with fail
  (with_reducible refine (within_any ao ow1 n1 c1 nw1 cw1 a w1 _ (HT.out.at ao n1 c1 a (List.Mem.tail _ (List.Mem.tail _ (List.Mem.tail _ (List.Mem.tail _ (List.Mem.tail _ (List.Mem.tail _ (List.Mem.tail _ (List.Mem.tail _ (List.Mem.tail _ (List.Mem.tail _ (List.Mem.tail _ (List.Mem.tail _ (List.Mem.tail _ (List.Mem.tail _ (List.Mem.tail _ (List.Mem.tail _ (List.Mem.tail _ (List.Mem.tail _ (List.Mem.tail _ (List.Mem.tail _ (List.Mem.tail _ (List.Mem.tail _ (List.Mem.tail _ (List.Mem.head _))))))))))))))))))))))))) (HT.out.at ow1 nw1 cw1 w1 (List.Mem.head _)) Ga.out Gw1.out (by have := Nw1.out; omega) true (by simp only [true_iff]; intro t h; exact (Mw1.out t).2 (.inl h))).mono ?_)
  rintro e z ⟨rfl, q⟩
  have HT := Lib.hid (HT.out.keep q); clear q
  obtain ⟨p, hp⟩ : ∃ r : Bool, Hid (r = true ↔ ∀ t, mem a t → mem b t) := by classical exact ⟨decide _, Lib.hid decide_eq_true_iff⟩
  go_wp2_with fail
  (with_reducible refine (within_any ao bo n1 c1 n2 c2 a b _ (HT.out.at ao n1 c1 a (List.Mem.tail _ (List.Mem.tail _ (List.Mem.tail _ (List.Mem.tail _ (List.Mem.tail _ (List.Mem.tail _ (List.Mem.tail _ (List.Mem.tail _ (List.Mem.tail _ (List.Mem.tail _ (List.Mem.tail _ (List.Mem.tail _ (List.Mem.tail _ (List.Mem.tail _ (List.Mem.tail _ (List.Mem.tail _ (List.Mem.tail _ (List.Mem.tail _ (List.Mem.tail _ (List.Mem.tail _ (List.Mem.tail _ (List.Mem.tail _ (List.Mem.tail _ (List.Mem.head _))))))))))))))))))))))))) (HT.out.at bo n2 c2 b (List.Mem.tail _ (List.Mem.tail _ (List.Mem.tail _ (List.Mem.tail _ (List.Mem.tail _ (List.Mem.tail _ (List.Mem.tail _ (List.Mem.tail _ (List.Mem.tail _ (List.Mem.tail _ (List.Mem.tail _ (List.Mem.tail _ (List.Mem.tail _ (List.Mem.tail _ (List.Mem.tail _ (List.Mem.tail _ (List.Mem.tail _ (List.Mem.tail _ (List.Mem.tail _ (List.Mem.tail _ (List.Mem.tail _ (List.Mem.tail _ (List.Mem.head _)))))))))))))))))))))))) Ga.out Gb.out (by have := Nb.out; omega) p (hp.out)).mono ?_)
  rintro e z ⟨rfl, q⟩
  have HT := Lib.hid (HT.out.keep q); clear q
  go_wp2_with fail
  (with_reducible refine (same_any ocu ao ncu ccu n1 c1 cu a _ (HT.out.at ocu ncu ccu cu (List.Mem.tail _ (List.Mem.tail _ (List.Mem.head _)))) (HT.out.at ao n1 c1 a (List.Mem.tail _ (List.Mem.tail _ (List.Mem.tail _ (List.Mem.tail _ (List.Mem.tail _ (List.Mem.tail _ (List.Mem.tail _ (List.Mem.tail _ (List.Mem.tail _ (List.Mem.tail _ (List.Mem.tail _ (List.Mem.tail _ (List.Mem.tail _ (List.Mem.tail _ (List.Mem.tail _ (List.Mem.tail _ (List.Mem.tail _ (List.Mem.tail _ (List.Mem.tail _ (List.Mem.tail _ (List.Mem.tail _ (List.Mem.tail _ (List.Mem.tail _ (List.Mem.head _))))))))))))))))))))))))) p (hp.out.trans ⟨fun h => same_mem Gcu.out Ga.out (fun t => (Mcu.out t).trans ⟨fun q => q.1, fun q => ⟨q, h t q⟩⟩), fun h t q => ((Mcu.out t).1 (by rw [h]; exact q)).2⟩)).mono ?_)
  rintro e z ⟨rfl, q⟩
  have HT := Lib.hid (HT.out.keep q); clear q
  have t3 : (p == p) = true := by simp
  obtain ⟨m, hm⟩ : ∃ r : Bool, Hid (r = true ↔ ∃ t, mem a t ∧ mem b t) := by classical exact ⟨decide _, Lib.hid decide_eq_true_iff⟩
  go_wp2_with fail
  (with_reducible refine (meet_any ao bo n1 c1 n2 c2 a b _ (HT.out.at ao n1 c1 a (List.Mem.tail _ (List.Mem.tail _ (List.Mem.tail _ (List.Mem.tail _ (List.Mem.tail _ (List.Mem.tail _ (List.Mem.tail _ (List.Mem.tail _ (List.Mem.tail _ (List.Mem.tail _ (List.Mem.tail _ (List.Mem.tail _ (List.Mem.tail _ (List.Mem.tail _ (List.Mem.tail _ (List.Mem.tail _ (List.Mem.tail _ (List.Mem.tail _ (List.Mem.tail _ (List.Mem.tail _ (List.Mem.tail _ (List.Mem.tail _ (List.Mem.tail _ (List.Mem.head _))))))))))))))))))))))))) (HT.out.at bo n2 c2 b (List.Mem.tail _ (List.Mem.tail _ (List.Mem.tail _ (List.Mem.tail _ (List.Mem.tail _ (List.Mem.tail _ (List.Mem.tail _ (List.Mem.tail _ (List.Mem.tail _ (List.Mem.tail _ (List.Mem.tail _ (List.Mem.tail _ (List.Mem.tail _ (List.Mem.tail _ (List.Mem.tail _ (List.Mem.tail _ (List.Mem.tail _ (List.Mem.tail _ (List.Mem.tail _ (List.Mem.tail _ (List.Mem.tail _ (List.Mem.tail _ (List.Mem.head _)))))))))))))))))))))))) Ga.out Gb.out (by have := Na.out; omega) (by have := Nb.out; omega) m (hm.out)).mono ?_)
  rintro e z ⟨rfl, q⟩
  have HT := Lib.hid (HT.out.keep q); clear q
  have t4 : (m == decide ((0 : Int) < (ncu : Int))) = true := by
    have hl := (HT.out.at ocu ncu ccu cu (List.Mem.tail _ (List.Mem.tail _ (List.Mem.head _)))).len
    have h : m = decide ((0 : Int) < (ncu : Int)) := by
      rw [Bool.eq_iff_iff, hm.out, decide_eq_true_iff]
      constructor
      · rintro ⟨t, h1, h2⟩
        obtain ⟨x, hx, _⟩ := (Mcu.out t).2 ⟨h1, h2⟩
        have := List.length_pos_of_mem hx; omega
      · intro h
        obtain ⟨x, r, hx⟩ := List.exists_cons_of_length_pos (show 0 < cu.length by omega)
        have hg := Gcu.out
        rw [hx] at hg
        exact ⟨x.1, (Mcu.out x.1).1 (by rw [hx]; exact (mem_cons x r x.1).2 (.inl ⟨Int.le_refl _, hg.2.1⟩))⟩
    rw [h]; simp
  have t5 : (m == decide (0 < ncu)) = true := by rw [← t4]; congr 2; simp
  go_wp2_with fail
  (with_reducible refine (awake_any _).mono ?_)
  rintro e z ⟨rfl, q⟩
  have HT := Lib.hid (HT.out.keep q); clear q
  go_wp2
  go_returns
  exact ⟨rfl, HT.out.bw⟩
end Go.Proofs.Ythjpnnggghfepaa
