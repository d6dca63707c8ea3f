/- M4 in one. -/
import Derived.Test.YtllhcpkpbipjlaaDoorKh
import Derived.Laws.Rows
namespace Go.Proofs.YtllhcpkpbipjlaaDoor
set_option linter.unusedVariables false
set_option linter.unusedSimpArgs false
open Go.ChangeShapes Go.WideShapes Go.ChangeAt Go.RowKit

/-- The table of words, as it lies. -/
def wordsA : Array Value := #[.string ⟨#[103, 114, 111, 117, 112]⟩, .string ⟨#[115, 104, 105, 102, 116]⟩, .string ⟨#[115, 117, 98, 115, 101, 116]⟩, .string ⟨#[97, 108, 116, 101, 114]⟩, .string ⟨#[99, 111, 109, 98, 105, 110, 101]⟩, .string ⟨#[97, 110, 99, 104, 111, 114]⟩, .string ⟨#[100, 111, 119, 110]⟩, .string ⟨#[117, 112]⟩, .string ⟨#[109, 101, 101, 116]⟩, .string ⟨#[117, 110, 105, 111, 110]⟩, .string ⟨#[99, 117, 116]⟩, .string ⟨#[108, 101, 115, 115]⟩]
def Tabw (w : World) : Prop := ∃ t fr, w.heap[0]? = some (.cells wordsA t fr)
theorem Tabw.keep {w w' : World} (h : Tabw w) (q : Below w.heap.size w w') : Tabw w' := by
  obtain ⟨t, fr, e⟩ := h
  exact ⟨t, fr, (q.block 0 (Array.getElem?_eq_some_iff.1 e).1).trans e⟩
theorem info64 : (Tryd.prog.info? 64).map (·.size) = some wordsA.size := by kernel_rfl
def opB (k : Nat) : ByteArray := ([⟨#[103, 114, 111, 117, 112]⟩, ⟨#[115, 104, 105, 102, 116]⟩, ⟨#[115, 117, 98, 115, 101, 116]⟩, ⟨#[97, 108, 116, 101, 114]⟩, ⟨#[99, 111, 109, 98, 105, 110, 101]⟩, ⟨#[97, 110, 99, 104, 111, 114]⟩, ⟨#[100, 111, 119, 110]⟩, ⟨#[117, 112]⟩, ⟨#[109, 101, 101, 116]⟩, ⟨#[117, 110, 105, 111, 110]⟩, ⟨#[99, 117, 116]⟩, ⟨#[108, 101, 115, 115]⟩] : List ByteArray).getD k ⟨#[]⟩
theorem opB_0 (w : World) : (Instr.index 64 (.agg wordsA) (.int .i64 0)).run Tryd.prog w = .ok (.string (opB 0)) w := by kernel_rfl
theorem opB_1 (w : World) : (Instr.index 64 (.agg wordsA) (.int .i64 1)).run Tryd.prog w = .ok (.string (opB 1)) w := by kernel_rfl
theorem opB_2 (w : World) : (Instr.index 64 (.agg wordsA) (.int .i64 2)).run Tryd.prog w = .ok (.string (opB 2)) w := by kernel_rfl
theorem opB_3 (w : World) : (Instr.index 64 (.agg wordsA) (.int .i64 3)).run Tryd.prog w = .ok (.string (opB 3)) w := by kernel_rfl
theorem opB_4 (w : World) : (Instr.index 64 (.agg wordsA) (.int .i64 4)).run Tryd.prog w = .ok (.string (opB 4)) w := by kernel_rfl
theorem opB_5 (w : World) : (Instr.index 64 (.agg wordsA) (.int .i64 5)).run Tryd.prog w = .ok (.string (opB 5)) w := by kernel_rfl
theorem opB_6 (w : World) : (Instr.index 64 (.agg wordsA) (.int .i64 6)).run Tryd.prog w = .ok (.string (opB 6)) w := by kernel_rfl
theorem opB_7 (w : World) : (Instr.index 64 (.agg wordsA) (.int .i64 7)).run Tryd.prog w = .ok (.string (opB 7)) w := by kernel_rfl
theorem opB_8 (w : World) : (Instr.index 64 (.agg wordsA) (.int .i64 8)).run Tryd.prog w = .ok (.string (opB 8)) w := by kernel_rfl
theorem opB_9 (w : World) : (Instr.index 64 (.agg wordsA) (.int .i64 9)).run Tryd.prog w = .ok (.string (opB 9)) w := by kernel_rfl
theorem opB_10 (w : World) : (Instr.index 64 (.agg wordsA) (.int .i64 10)).run Tryd.prog w = .ok (.string (opB 10)) w := by kernel_rfl
theorem opB_11 (w : World) : (Instr.index 64 (.agg wordsA) (.int .i64 11)).run Tryd.prog w = .ok (.string (opB 11)) w := by kernel_rfl
theorem opB_at (k : Nat) (h : k < 12) (w : World) : (Instr.index 64 (.agg wordsA) (.int .i64 (k : Int))).run Tryd.prog w = .ok (.string (opB k)) w := by
  have : k = 0 ∨ k = 1 ∨ k = 2 ∨ k = 3 ∨ k = 4 ∨ k = 5 ∨ k = 6 ∨ k = 7 ∨ k = 8 ∨ k = 9 ∨ k = 10 ∨ k = 11 := by omega
  rcases this with rfl | rfl | rfl | rfl | rfl | rfl | rfl | rfl | rfl | rfl | rfl | rfl
  · exact opB_0 w
  · exact opB_1 w
  · exact opB_2 w
  · exact opB_3 w
  · exact opB_4 w
  · exact opB_5 w
  · exact opB_6 w
  · exact opB_7 w
  · exact opB_8 w
  · exact opB_9 w
  · exact opB_10 w
  · exact opB_11 w
theorem opB_W (k : Nat) (h : k < 12) : (opB k).data.toList = Lx.opW[k]'(by exact h) := by
  have : k = 0 ∨ k = 1 ∨ k = 2 ∨ k = 3 ∨ k = 4 ∨ k = 5 ∨ k = 6 ∨ k = 7 ∨ k = 8 ∨ k = 9 ∨ k = 10 ∨ k = 11 := by omega
  rcases this with rfl | rfl | rfl | rfl | rfl | rfl | rfl | rfl | rfl | rfl | rfl | rfl <;> rfl
theorem opGo_step (k : Nat) (h : k < 12) (w : List UInt8) : Lx.opGo (Lx.opW.drop k) (k + 1) w = if Lx.opW[k]'(by exact h) = w then k + 1 else Lx.opGo (Lx.opW.drop (k + 1)) (k + 1 + 1) w := by
  rw [List.drop_eq_getElem_cons (by exact h)]; rfl
set_option maxRecDepth 20000 in
set_option maxHeartbeats 1000000 in
theorem op_any (s : ByteArray) (w : World) (hT : Tabw w) :
    Calls Tryd.prog 9 #[.string s] w fun e w' => e = .returned (.tuple #[.int .u8 (Lx.opN s.data.toList : Int), .bool (decide (Lx.opN s.data.toList ≠ 0))]) ∧ w = w' := by
  obtain ⟨t, fr, hg1⟩ := hT
  obtain ⟨R, hR⟩ : ∃ R, Lx.opN s.data.toList = R := ⟨_, rfl⟩
  rw [hR]
  have HR : Hid (Lx.opGo (Lx.opW.drop 0) (0 + 1) s.data.toList = R) := Lib.hid hR
  obtain ⟨A, hA⟩ : ∃ A, wordsA = A := ⟨_, rfl⟩
  have HI : Hid (∀ (k : Nat) (h : k < 12) (w : World), (Instr.index 64 (.agg A) (.int .i64 (k : Int))).run Tryd.prog w = .ok (.string (opB k)) w) := Lib.hid (by rw [← hA]; exact opB_at)
  have HS := info64
  rw [hA] at HS hg1
  clear hR hA
  go_enter Tryd.func9, Tryd.ntmps9
  go_wp2_with (refine wpList_load_row rfl 64 _ rfl 0 rfl t _ fr _ hg1 Tryd.underlying64 rfl HS ?_)
  clear hg1 HS
  go_loop [4, 5, 7] (fun s4 s5 ii => ∃ k : Nat, k ≤ 12 ∧ ii = .int .i64 k ∧ Hid (Lx.opGo (Lx.opW.drop k) (k + 1) s.data.toList = R)) (fun s4 s5 ii => 12 - (intOf ii).toNat)
  case atStart => exact ⟨0, by omega, rfl, HR⟩
  case round =>
    clear HR
    obtain ⟨k, hk, rfl, HR⟩ := hrel
    have k0 : (0 : Int) ≤ (k : Int) := by omega
    by_cases klt : k < 12
    · have k1 : (k : Int) < 12 := by omega
      have hi := HI.out k klt w
      obtain ⟨x, hx⟩ : ∃ x, opB k = x := ⟨_, rfl⟩
      have HX : Hid (x.data.toList = Lx.opW[k]'(by exact klt)) := Lib.hid (by rw [← hx]; exact opB_W k klt)
      have HST := Lib.hid (opGo_step k klt s.data.toList)
      rw [hx] at hi
      clear hx
      have HE : Hid ((x.toList == s.toList) = decide (Lx.opW[k]'(by exact klt) = s.data.toList)) := Lib.hid (by
        rw [ByteArray.toList_eq, ByteArray.toList_eq, HX.out]
        cases hz : decide (Lx.opW[k] = s.data.toList) with | true => simp at hz; simp [hz] | false => simp at hz; simp [hz])
      by_cases q : Lx.opW[k]'(by exact klt) = s.data.toList
      · have h1 : (x.toList == s.toList) = true := by rw [HE.out]; exact decide_eq_true q
        obtain rfl : R = k + 1 := by rw [← HR.out, HST.out, if_pos q]
        clear HE HST HX q HR
        go_wp2
        go_returns
        exact ⟨by show Ending.returned (.tuple #[.int .u8 (1 + (k : Int)), .bool true]) = Ending.returned (.tuple #[.int .u8 ((k + 1 : Nat) : Int), .bool (decide (k + 1 ≠ 0))]); rw [Int.add_comm]; simp, rfl⟩
      · have h1 : (x.toList == s.toList) = false := by rw [HE.out]; exact decide_eq_false q
        have HR2 : Hid (Lx.opGo (Lx.opW.drop (k + 1)) (k + 1 + 1) s.data.toList = R) := Lib.hid (by rw [← HR.out, HST.out, if_neg q])
        clear HE HST HX q HR
        go_wp2
        go_round
        case rel => exact ⟨k + 1, by omega, by go_num, HR2⟩
        case measure => simp [intOf]; omega
    · obtain rfl : k = 12 := by omega
      obtain rfl : R = 0 := HR.out.symm
      go_wp2
      go_returns
      exact ⟨rfl, rfl⟩
theorem sh_0 (w : World) : Calls Tryd.prog 11 #[.string ⟨#[100, 101, 102, 105, 110, 101]⟩] w fun e w' => e = .returned (.tuple #[.string ⟨#[110, 61, 101]⟩, .bool true]) ∧ w = w' := by
  go_enter Tryd.func11, Tryd.ntmps11
  go_wp2
  go_returns
  exact ⟨rfl, rfl⟩
theorem sh_1 (w : World) : Calls Tryd.prog 11 #[.string ⟨#[100, 114, 111, 112]⟩] w fun e w' => e = .returned (.tuple #[.string ⟨#[110]⟩, .bool true]) ∧ w = w' := by
  go_enter Tryd.func11, Tryd.ntmps11
  go_wp2
  go_returns
  exact ⟨rfl, rfl⟩
theorem sh_2 (w : World) : Calls Tryd.prog 11 #[.string ⟨#[115, 104, 111, 119]⟩] w fun e w' => e = .returned (.tuple #[.string ⟨#[110]⟩, .bool true]) ∧ w = w' := by
  go_enter Tryd.func11, Tryd.ntmps11
  go_wp2
  go_returns
  exact ⟨rfl, rfl⟩
theorem sh_3 (w : World) : Calls Tryd.prog 11 #[.string ⟨#[102, 111, 114, 109]⟩] w fun e w' => e = .returned (.tuple #[.string ⟨#[110]⟩, .bool true]) ∧ w = w' := by
  go_enter Tryd.func11, Tryd.ntmps11
  go_wp2
  go_returns
  exact ⟨rfl, rfl⟩
theorem sh_4 (w : World) : Calls Tryd.prog 11 #[.string ⟨#[118, 97, 114]⟩] w fun e w' => e = .returned (.tuple #[.string ⟨#[110]⟩, .bool true]) ∧ w = w' := by
  go_enter Tryd.func11, Tryd.ntmps11
  go_wp2
  go_returns
  exact ⟨rfl, rfl⟩
theorem sh_5 (w : World) : Calls Tryd.prog 11 #[.string ⟨#[101, 120, 116, 101, 110, 116]⟩] w fun e w' => e = .returned (.tuple #[.string ⟨#[110, 105]⟩, .bool true]) ∧ w = w' := by
  go_enter Tryd.func11, Tryd.ntmps11
  go_wp2
  go_returns
  exact ⟨rfl, rfl⟩
theorem sh_6 (w : World) : Calls Tryd.prog 11 #[.string ⟨#[103, 114, 97, 110, 117, 108, 101]⟩] w fun e w' => e = .returned (.tuple #[.string ⟨#[110, 105]⟩, .bool true]) ∧ w = w' := by
  go_enter Tryd.func11, Tryd.ntmps11
  go_wp2
  go_returns
  exact ⟨rfl, rfl⟩
theorem sh_7 (w : World) : Calls Tryd.prog 11 #[.string ⟨#[110, 101, 120, 116]⟩] w fun e w' => e = .returned (.tuple #[.string ⟨#[110, 105]⟩, .bool true]) ∧ w = w' := by
  go_enter Tryd.func11, Tryd.ntmps11
  go_wp2
  go_returns
  exact ⟨rfl, rfl⟩
theorem sh_8 (w : World) : Calls Tryd.prog 11 #[.string ⟨#[112, 114, 101, 118]⟩] w fun e w' => e = .returned (.tuple #[.string ⟨#[110, 105]⟩, .bool true]) ∧ w = w' := by
  go_enter Tryd.func11, Tryd.ntmps11
  go_wp2
  go_returns
  exact ⟨rfl, rfl⟩
theorem sh_9 (w : World) : Calls Tryd.prog 11 #[.string ⟨#[115, 112, 97, 110]⟩] w fun e w' => e = .returned (.tuple #[.string ⟨#[110, 105]⟩, .bool true]) ∧ w = w' := by
  go_enter Tryd.func11, Tryd.ntmps11
  go_wp2
  go_returns
  exact ⟨rfl, rfl⟩
theorem sh_10 (w : World) : Calls Tryd.prog 11 #[.string ⟨#[114, 101, 108]⟩] w fun e w' => e = .returned (.tuple #[.string ⟨#[110, 110]⟩, .bool true]) ∧ w = w' := by
  go_enter Tryd.func11, Tryd.ntmps11
  go_wp2
  go_returns
  exact ⟨rfl, rfl⟩
theorem sh_11 (w : World) : Calls Tryd.prog 11 #[.string ⟨#[99, 111, 118, 101, 114]⟩] w fun e w' => e = .returned (.tuple #[.string ⟨#[110, 110, 105]⟩, .bool true]) ∧ w = w' := by
  go_enter Tryd.func11, Tryd.ntmps11
  go_wp2
  go_returns
  exact ⟨rfl, rfl⟩
theorem sh_12 (w : World) : Calls Tryd.prog 11 #[.string ⟨#[98, 111, 117, 110, 100]⟩] w fun e w' => e = .returned (.tuple #[.string ⟨#[110, 110, 110, 114]⟩, .bool true]) ∧ w = w' := by
  go_enter Tryd.func11, Tryd.ntmps11
  go_wp2
  go_returns
  exact ⟨rfl, rfl⟩
theorem sh_13 (w : World) : Calls Tryd.prog 11 #[.string ⟨#[100, 97, 116, 101]⟩] w fun e w' => e = .returned (.tuple #[.string ⟨#[105]⟩, .bool true]) ∧ w = w' := by
  go_enter Tryd.func11, Tryd.ntmps11
  go_wp2
  go_returns
  exact ⟨rfl, rfl⟩
theorem sh_14 (w : World) : Calls Tryd.prog 11 #[.string ⟨#[115, 111, 108, 118, 101]⟩] w fun e w' => e = .returned (.tuple #[.string ⟨#[105, 105, 105]⟩, .bool true]) ∧ w = w' := by
  go_enter Tryd.func11, Tryd.ntmps11
  go_wp2
  go_returns
  exact ⟨rfl, rfl⟩
theorem sh_15 (w : World) : Calls Tryd.prog 11 #[.string ⟨#[110, 101, 116]⟩] w fun e w' => e = .returned (.tuple #[.string ⟨#[]⟩, .bool true]) ∧ w = w' := by
  go_enter Tryd.func11, Tryd.ntmps11
  go_wp2
  go_returns
  exact ⟨rfl, rfl⟩
theorem sh_16 (w : World) : Calls Tryd.prog 11 #[.string ⟨#[105, 110, 102, 101, 114]⟩] w fun e w' => e = .returned (.tuple #[.string ⟨#[]⟩, .bool true]) ∧ w = w' := by
  go_enter Tryd.func11, Tryd.ntmps11
  go_wp2
  go_returns
  exact ⟨rfl, rfl⟩
theorem sh_17 (w : World) : Calls Tryd.prog 11 #[.string ⟨#[114, 101, 115, 101, 116]⟩] w fun e w' => e = .returned (.tuple #[.string ⟨#[]⟩, .bool true]) ∧ w = w' := by
  go_enter Tryd.func11, Tryd.ntmps11
  go_wp2
  go_returns
  exact ⟨rfl, rfl⟩
set_option maxHeartbeats 1000000 in
theorem sh_none (s : ByteArray) (w : World) (h0 : (s.toList == [100, 101, 102, 105, 110, 101]) = false) (h1 : (s.toList == [100, 114, 111, 112]) = false) (h2 : (s.toList == [115, 104, 111, 119]) = false) (h3 : (s.toList == [102, 111, 114, 109]) = false) (h4 : (s.toList == [118, 97, 114]) = false) (h5 : (s.toList == [101, 120, 116, 101, 110, 116]) = false) (h6 : (s.toList == [103, 114, 97, 110, 117, 108, 101]) = false) (h7 : (s.toList == [110, 101, 120, 116]) = false) (h8 : (s.toList == [112, 114, 101, 118]) = false) (h9 : (s.toList == [115, 112, 97, 110]) = false) (h10 : (s.toList == [114, 101, 108]) = false) (h11 : (s.toList == [99, 111, 118, 101, 114]) = false) (h12 : (s.toList == [98, 111, 117, 110, 100]) = false) (h13 : (s.toList == [100, 97, 116, 101]) = false) (h14 : (s.toList == [115, 111, 108, 118, 101]) = false) (h15 : (s.toList == [110, 101, 116]) = false) (h16 : (s.toList == [105, 110, 102, 101, 114]) = false) (h17 : (s.toList == [114, 101, 115, 101, 116]) = false) : Calls Tryd.prog 11 #[.string s] w fun e w' => e = .returned (.tuple #[.string ⟨#[]⟩, .bool false]) ∧ w = w' := by
  go_enter Tryd.func11, Tryd.ntmps11
  go_wp2
  go_returns
  exact ⟨rfl, rfl⟩
theorem str_of (s : ByteArray) (l : List UInt8) (h : s.data.toList = l) : s = ⟨l.toArray⟩ := by
  cases s with | mk d => cases d with | mk k => simp at h; subst h; rfl
/-- What Shape tells. -/
def shV : Option (List UInt8) → Value
  | none => .tuple #[.string ⟨#[]⟩, .bool false]
  | some x => .tuple #[.string ⟨x.toArray⟩, .bool true]
theorem ne_of (s : ByteArray) (l : List UInt8) (h : ¬ s.data.toList = l) : (s.toList == l) = false := by
  rw [ByteArray.toList_eq]; simpa using h
theorem shape_any (s : ByteArray) (w : World) : Calls Tryd.prog 11 #[.string s] w fun e w' => e = .returned (shV (Lx.shape s.data.toList)) ∧ w = w' := by
  obtain ⟨l, hl⟩ : ∃ l, s.data.toList = l := ⟨_, rfl⟩
  by_cases h0 : l = [100, 101, 102, 105, 110, 101]
  · subst h0
    rw [hl, str_of s _ hl]; exact sh_0 w
  · by_cases h1 : l = [100, 114, 111, 112]
    · subst h1
      rw [hl, str_of s _ hl]; exact sh_1 w
    · by_cases h2 : l = [115, 104, 111, 119]
      · subst h2
        rw [hl, str_of s _ hl]; exact sh_2 w
      · by_cases h3 : l = [102, 111, 114, 109]
        · subst h3
          rw [hl, str_of s _ hl]; exact sh_3 w
        · by_cases h4 : l = [118, 97, 114]
          · subst h4
            rw [hl, str_of s _ hl]; exact sh_4 w
          · by_cases h5 : l = [101, 120, 116, 101, 110, 116]
            · subst h5
              rw [hl, str_of s _ hl]; exact sh_5 w
            · by_cases h6 : l = [103, 114, 97, 110, 117, 108, 101]
              · subst h6
                rw [hl, str_of s _ hl]; exact sh_6 w
              · by_cases h7 : l = [110, 101, 120, 116]
                · subst h7
                  rw [hl, str_of s _ hl]; exact sh_7 w
                · by_cases h8 : l = [112, 114, 101, 118]
                  · subst h8
                    rw [hl, str_of s _ hl]; exact sh_8 w
                  · by_cases h9 : l = [115, 112, 97, 110]
                    · subst h9
                      rw [hl, str_of s _ hl]; exact sh_9 w
                    · by_cases h10 : l = [114, 101, 108]
                      · subst h10
                        rw [hl, str_of s _ hl]; exact sh_10 w
                      · by_cases h11 : l = [99, 111, 118, 101, 114]
                        · subst h11
                          rw [hl, str_of s _ hl]; exact sh_11 w
                        · by_cases h12 : l = [98, 111, 117, 110, 100]
                          · subst h12
                            rw [hl, str_of s _ hl]; exact sh_12 w
                          · by_cases h13 : l = [100, 97, 116, 101]
                            · subst h13
                              rw [hl, str_of s _ hl]; exact sh_13 w
                            · by_cases h14 : l = [115, 111, 108, 118, 101]
                              · subst h14
                                rw [hl, str_of s _ hl]; exact sh_14 w
                              · by_cases h15 : l = [110, 101, 116]
                                · subst h15
                                  rw [hl, str_of s _ hl]; exact sh_15 w
                                · by_cases h16 : l = [105, 110, 102, 101, 114]
                                  · subst h16
                                    rw [hl, str_of s _ hl]; exact sh_16 w
                                  · by_cases h17 : l = [114, 101, 115, 101, 116]
                                    · subst h17
                                      rw [hl, str_of s _ hl]; exact sh_17 w
                                    · have e : Lx.shape l = none := by unfold Lx.shape Lx.shapes; simp only [Lx.shGo, h0, h1, h2, h3, h4, h5, h6, h7, h8, h9, h10, h11, h12, h13, h14, h15, h16, h17, if_false]
                                      rw [hl, e]
                                      exact sh_none s w (ne_of s _ (by rw [hl]; exact h0)) (ne_of s _ (by rw [hl]; exact h1)) (ne_of s _ (by rw [hl]; exact h2)) (ne_of s _ (by rw [hl]; exact h3)) (ne_of s _ (by rw [hl]; exact h4)) (ne_of s _ (by rw [hl]; exact h5)) (ne_of s _ (by rw [hl]; exact h6)) (ne_of s _ (by rw [hl]; exact h7)) (ne_of s _ (by rw [hl]; exact h8)) (ne_of s _ (by rw [hl]; exact h9)) (ne_of s _ (by rw [hl]; exact h10)) (ne_of s _ (by rw [hl]; exact h11)) (ne_of s _ (by rw [hl]; exact h12)) (ne_of s _ (by rw [hl]; exact h13)) (ne_of s _ (by rw [hl]; exact h14)) (ne_of s _ (by rw [hl]; exact h15)) (ne_of s _ (by rw [hl]; exact h16)) (ne_of s _ (by rw [hl]; exact h17))
end Go.Proofs.YtllhcpkpbipjlaaDoor
