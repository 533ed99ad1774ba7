/- The document's own reading of a text. -/
import Derived.Test.YtbfmlbcjggplgaaGreatDoorIRefG
import Derived.Test.YtbfmlbcjggplgaaGreatDoorIFit
import Derived.BigQuiet
import Derived.Deep.DeepCutAuto
import Derived.Deep.CutBlock
namespace Go.Proofs.YtbfmlbcjggplgaaGreatDoor
open Go.RowKit Im
set_option linter.unusedVariables false
set_option linter.unusedSimpArgs false
theorem results_cell1 {P : Program} {fn : Func} {p q : Tmp} {ty : TypeId} (h : fn.results = #[.cell p ty, .tmp q]) (tmps : Array Value) (w : World) (g : Nat) (t : TypeId) (cs : Array Value) (fr : Nat × Nat) (d : TypeDesc) (v : Value)
    (hp : tmps.getD p undef = .pointer (some ⟨g, 0, none⟩)) (hq : tmps.getD q undef = v) (hg : w.heap[g]? = some (.cells cs t fr))
    (hu : P.underlying ty = some d) (hd : (match d with | .struct _ | .array _ _ => true | _ => false) = true) (hi : (P.info? ty).map (·.size) = some cs.size) :
    (results fn tmps).run P w = .ok (.tuple #[.agg cs, v]) w := by
  have hp' : tmps[p]?.getD undef = .pointer (some ⟨g, 0, none⟩) := by simpa using hp
  have hq' : tmps[q]?.getD undef = v := by simpa using hq
  simp [results, h, hp', hq', asAddr, run_loadVar_row w g t ty cs fr d hg hu hd hi]
/-- a row's block is of the call's own -/
def Lo (n : Nat) (p : Option Addr) : Prop := ∀ q, p = some q → n ≤ q.block
/-- where the loop over the bytes stands -/
def RdAt (s : ByteArray) (w : World) (bx b3 k f n : Nat) (code : Bool) (wr : World) : Prop :=
  ∃ (img : Img) (cur : Bs) (vW vS : Value), rdF rd0 (s.data.toList.take k) = ⟨img, n, code, cur⟩ ∧ f + cur.length = k ∧ (s.extract f k).data.toList = cur ∧ FitSt w bx b3 box0 img.mem vW img.words vS img.syms wr ∧ Fits img ∧ img.words.length + img.syms.length + cur.length ≤ k ∧ n ≤ k ∧ (code = true → 1 ≤ n)
theorem RdAt.byte {s : ByteArray} {w : World} {bx b3 k f n : Nat} {code : Bool} {wr : World} (h : RdAt s w bx b3 k f n code wr) (hk : k < s.size) (hc : s[k] ≠ 10) : RdAt s w bx b3 (k + 1) f n code wr := by
  obtain ⟨img, cur, vW, vS, h1, h2, h3, h4, h5, h6, h7, h8⟩ := h
  refine ⟨img, cur ++ [s[k]], vW, vS, ?_, by simp; omega, ?_, h4, h5, by simp; omega, by omega, h8⟩
  · rw [rd_succ s k hk, h1]
    unfold rdStep
    rw [if_neg hc]
  · rw [extract_list, List.take_succ_eq_append_getElem (by simpa using hk), List.drop_append_of_le_length (by simp; omega), ← extract_list, h3]
    rfl
theorem RdAt.line {s : ByteArray} {w : World} {bx b3 k n : Nat} {code code' : Bool} {img img' : Img} {cur : Bs} {vW vS : Value} {W : World} (hk : k < s.size) (hc : s[k] = 10) (g1 : rdF rd0 (s.data.toList.take k) = ⟨img, n, code, cur⟩) (hv : lineV ⟨img, n, code, cur⟩ cur = ⟨img', n + 1, code', []⟩)
    (hF : FitSt w bx b3 box0 img'.mem vW img'.words vS img'.syms W) (hl : img'.words.length + img'.syms.length ≤ k + 1) (hn : n ≤ k) (h5 : Fits img) (hcl : cur.length ≤ 1000000) : RdAt s w bx b3 (k + 1) (k + 1) (n + 1) code' W := by
  have hfit := fits_line (st := ⟨img, n, code, cur⟩) (l := cur) h5 hcl
  rw [hv] at hfit
  refine ⟨img', [], vW, vS, ?_, rfl, by rw [extract_list]; simp, hF, hfit, by simpa using hl, by omega, fun _ => by omega⟩
  rw [rd_succ s k hk, g1]
  unfold rdStep
  rw [if_pos hc]
  exact hv
set_option maxRecDepth 100000 in
set_option maxHeartbeats 8000000 in
theorem rRead_any {s : ByteArray} (hs : s.size ≤ 1000000) (w : World) :
    Calls Tryz.prog 36 #[.string s] w fun e w' => ∃ wp sp, (∃ wc sc, e = .returned (.tuple #[imgV wp sp wc sc (rdF rd0 s.data.toList).img, .int .i64 (Lib.countByte s.data.toList 10 : Nat)])) ∧ ImgAt w' wp sp (rdF rd0 s.data.toList).img ∧ Bel w w' ∧ Lo w.heap.size wp ∧ Lo w.heap.size sp := by
  obtain ⟨mI, hmI⟩ : ∃ I, (rdF rd0 s.data.toList).img = I := ⟨_, rfl⟩
  obtain ⟨cN, hcN⟩ : ∃ c, Lib.countByte s.data.toList 10 = c := ⟨_, rfl⟩
  rw [hmI, hcN]
  have HMI := Lib.hid hmI
  have HCN := Lib.hid hcN
  clear hmI hcN
  go_enter Tryz.func36, Tryz.ntmps36
  go_wp2_with fail
  have hnew := rd_new w
  generalize (w.alloc (.cells #[.slice none 0 0, .int .i64 0, .slice none 0 0] 25)).alloc (.cells #[.slice none 0 0, .int .i64 0, .slice none 0 0] 25) = W0 at hnew ⊢
  obtain ⟨bx, hbx⟩ : ∃ b, b = w.heap.size := ⟨_, rfl⟩
  obtain ⟨b3, hb3⟩ : ∃ b, b = w.heap.size + 1 := ⟨_, rfl⟩
  rw [← hb3] at hnew ⊢
  rw [← hbx] at hnew ⊢
  have HNEW : Hid (RdAt s w bx b3 0 0 0 false W0) := ⟨Im.empty, [], _, _, rfl, rfl, by rw [extract_list]; rfl, hnew, ⟨by simp [Im.empty], by simp [Im.empty], by simp [Im.empty]⟩, by simp [Im.empty], Nat.le_refl _, by simp⟩
  have HBXE := Lib.hid hbx
  clear hnew hb3 hbx
  go_loopw [5, 6, 7, 8] (fun nv cv fv iv wr => ∃ (k f n : Nat) (code : Bool), k ≤ s.size ∧ iv = .int .i64 k ∧ fv = .int .i64 f ∧ nv = .int .i64 n ∧ cv = .bool code ∧ Hid (RdAt s w bx b3 k f n code wr)) (fun _ _ _ iv _ => s.size - (intOf iv).toNat)
  case atStart => exact ⟨0, 0, 0, false, Nat.zero_le _, rfl, rfl, rfl, rfl, HNEW.out⟩
  case round =>
    obtain ⟨wq, rfl⟩ : ∃ W, W = wr := ⟨_, rfl⟩
    obtain ⟨k, f, n, code, hk, rfl, rfl, rfl, rfl, HA⟩ := hrel
    by_cases hlt : k < s.size
    · by_cases hc : s[k] = 10
      · have hc1 : s[k].toNat = 10 := by rw [hc]; rfl
        obtain ⟨img, cur, vW, vS, g1, g2, g3, g4, g5, g6, g7, g8⟩ := HA.out
        obtain ⟨l, hl⟩ : ∃ l, s.extract f k = l := ⟨_, rfl⟩
        rw [hl] at g3
        have hls : l.size = cur.length := by rw [← g3, size_list]
        have hsl : ∀ wx : World, (Instr.slice 9 (.string s) (some (.int .i64 (f : Int))) (some (.int .i64 (k : Int))) none).run Tryz.prog wx = .ok (.string l) wx := fun wx => by
          have := run_slice_string (P := Tryz.prog) wx 9 s .i64 .i64 (f : Int) (k : Int) Tryz.underlying9 (by omega) (by omega) (by omega)
          rw [this]
          exact congrArg (fun z => Result.ok (Value.string z) wx) hl
        have hc3 : ((s[k].toNat : Int) != 10) = false := by rw [hc1]; rfl
        have HG1 := Lib.hid g1
        have HG3 := Lib.hid g3
        have HG4 := Lib.hid g4
        have HG5 := Lib.hid g5
        have HG6 := Lib.hid g6
        have HG7 := Lib.hid g7
        have HC := Lib.hid hc
        have HLT := Lib.hid hlt
        have HLS := Lib.hid hls
        have hn1 : n ≤ 1000000 := by omega
        have hl1 : l.size ≤ 1000000 := by omega
        have hf1 : f ≤ 1000000 := by omega
        have hk1 : k < 1000000 := by omega
        have q0 := cell_of_heap g4.hb3 0
        have q1 := cell_of_heap g4.hb3 1
        have q2 := cell_of_heap g4.hb3 2
        simp only [List.getElem?_toArray, List.getElem?_cons_zero, List.getElem?_cons_succ] at q0 q1 q2
        have u1 := frozen_of_heap g4.hb3 1
        clear hc hc1 HA g1 g3 g4 g5 g6 g7 hl hls g2
        by_cases c1 : n = 0 ∧ 6 < l.size
        · obtain ⟨rfl, c1⟩ := c1
          have HV : Hid (lineV ⟨img, 0, code, cur⟩ cur = ⟨⟨img.words, valV 10 (cur.drop 6), img.syms⟩, 0 + 1, code, []⟩) := Lib.hid (by unfold lineV; rw [if_pos ⟨rfl, by have := HLS.out; omega⟩])
          obtain ⟨v, hv⟩ : ∃ v, valV 10 (l.extract 6 l.size).data.toList = v := ⟨_, rfl⟩
          have HVV := Lib.hid hv
          have HVE : Hid (valV 10 (cur.drop 6) = v) := Lib.hid (by rw [← hv, extract_list, List.take_of_length_le (by simp), HG3.out])
          have HM : Hid ((l.extract 6 l.size).size ≤ maxLen) := Lib.hid (by rw [ByteArray.size_extract]; unfold maxLen; omega)
          clear hv
          go_wp2_with fail
          refine (value_any (Or.inl ⟨rfl, rfl⟩) HM.out HVV.out _).mono ?_
          rintro e w7 ⟨rfl, rfl⟩
          have HN : Hid (RdAt s w bx b3 (k + 1) (k + 1) (0 + 1) code (wq.setCell ⟨b3, 1, none⟩ (.int .i64 v))) := Lib.hid (RdAt.line HLT.out HC.out HG1.out (HVE.out ▸ HV.out) (HG4.out.mem' v) (by have := HG6.out; simp only; omega) HG7.out HG5.out (by have := HLS.out; omega))
          go_wp2_with fail
          go_roundw
          case rel => exact ⟨k + 1, k + 1, 0 + 1, code, HLT.out, by go_num, by go_num, by go_num, rfl, HN.out⟩
          case measure => simp [intOf]; have := HLT.out; omega
        · by_cases c2 : cur = codeL ∧ code = false
          · obtain ⟨c2, rfl⟩ := c2
            have hlc : l = ⟨#[99, 111, 100, 101]⟩ := by
              rw [← str_of l, HG3.out, c2]
              rfl
            have HV : Hid (lineV ⟨img, n, false, cur⟩ cur = ⟨img, n + 1, true, []⟩) := Lib.hid (by unfold lineV; rw [if_neg (by rw [← HLS.out]; exact c1), if_pos ⟨c2, rfl⟩])
            have HN : Hid (RdAt s w bx b3 (k + 1) (k + 1) (n + 1) true wq) := Lib.hid (RdAt.line HLT.out HC.out HG1.out HV.out HG4.out (by have := HG6.out; omega) HG7.out HG5.out (by have := HLS.out; omega))
            subst hlc
            clear c1 c2
            rcases (show n = 0 ∨ 0 < n by omega) with hn | hn
            · subst hn
              go_wp2_with fail
              go_roundw
              case rel => exact ⟨k + 1, k + 1, 0 + 1, true, HLT.out, by go_num, by go_num, by go_num, rfl, HN.out⟩
              case measure => simp [intOf]; have := HLT.out; omega
            · have hn2 : ((n : Int) + 1 == 1) = false := by rw [beq_eq_false_iff_ne]; omega
              go_wp2_with fail
              go_roundw
              case rel => exact ⟨k + 1, k + 1, n + 1, true, HLT.out, by go_num, by go_num, by go_num, rfl, HN.out⟩
              case measure => simp [intOf]; have := HLT.out; omega
          · cases code with
            | true =>
              have hn0 := g8 rfl
              have HV : Hid (lineV ⟨img, n, true, cur⟩ cur = ⟨⟨img.words ++ (if sumL cur then [] else chk cur), img.mem, img.syms⟩, n + 1, true, []⟩) := Lib.hid (by unfold lineV; rw [if_neg (by simp only; omega), if_neg (by simp), if_neg (by simp), if_pos rfl])
              have hn2 : ((n : Int) + 1 == 1) = false := by rw [beq_eq_false_iff_ne]; omega
              obtain ⟨rc, hrc⟩ : ∃ r, (l.toList == [99, 111, 100, 101]) = r := ⟨_, rfl⟩
              clear c1 c2 g8
              by_cases hsum : sumL cur
              · have HN : Hid (RdAt s w bx b3 (k + 1) (k + 1) (n + 1) true wq) := Lib.hid (RdAt.line HLT.out HC.out HG1.out (by rw [HV.out, if_pos hsum, List.append_nil]) HG4.out (by have := HG6.out; first | omega | (simp; omega)) HG7.out HG5.out (by have := HLS.out; omega))
                have z4 : (4 : Int) ≤ (l.size : Int) := by have := hsum.1; have := HLS.out; omega
                have z5 : decide ((l.size : Int) < 4) = false := decide_eq_false (by omega)
                have zt : (l.extract 0 4).toList = [115, 117, 109, 32] := by rw [ByteArray.toList_eq, extract_list, HG3.out, List.drop_zero]; exact hsum.2
                have z6 : ((l.extract 0 4).toList == [115, 117, 109, 32]) = true := by rw [zt]; rfl
                have z7 : ((l.extract 0 4).toList != [115, 117, 109, 32]) = false := by rw [zt]; rfl
                clear hsum zt
                cases rc
                all_goals
                  go_wp2_with fail
                  go_loopw [10] (fun kv wr => kv = .int .i64 0 ∧ wr = wq) (fun _ _ => 0)
                  case atStart => exact ⟨rfl, rfl⟩
                  case round =>
                    obtain ⟨rfl, rfl⟩ := hrel
                    rcases (show l.size < 8 ∨ 8 ≤ l.size by omega) with z8 | z8
                    · have z9 : decide ((8 : Int) ≤ (l.size : Int)) = false := decide_eq_false (by omega)
                      clear z8
                      go_wp2_with fail
                      go_roundw
                      case rel => exact ⟨k + 1, k + 1, n + 1, true, HLT.out, by go_num, by go_num, by go_num, rfl, HN.out⟩
                      case measure => simp [intOf]; have := HLT.out; omega
                    · have z9 : decide ((8 : Int) ≤ (l.size : Int)) = true := decide_eq_true (by omega)
                      clear z8
                      go_wp2_with fail
                      go_roundw
                      case rel => exact ⟨k + 1, k + 1, n + 1, true, HLT.out, by go_num, by go_num, by go_num, rfl, HN.out⟩
                      case measure => simp [intOf]; have := HLT.out; omega
              · have HV2 : Hid (lineV ⟨img, n, true, cur⟩ cur = ⟨⟨img.words ++ chk cur, img.mem, img.syms⟩, n + 1, true, []⟩) := Lib.hid (by rw [HV.out, if_neg hsum])
                have hcl := chk_len _ cur (Nat.le_refl _)
                have HCL := Lib.hid hcl
                have HNS : Hid (4 ≤ l.size → ¬ (l.extract 0 4).toList = [115, 117, 109, 32]) := Lib.hid (fun h c => hsum ⟨by rw [← HLS.out]; exact h, by rw [ByteArray.toList_eq, extract_list, HG3.out, List.drop_zero] at c; exact c⟩)
                clear hsum hcl HV
                cases rc
                · go_wp2_with fail
                  clear q0 q1 q2 u1
                  go_loopw [10] (fun kv wr => ∃ (kk : Nat) (D : List Int) (vX : Value), kk ≤ l.size + 9 ∧ kv = .int .i64 kk ∧ Hid (FitSt w bx b3 box0 img.mem vX (img.words ++ D) vS img.syms wr ∧ D ++ chk (cur.drop kk) = chk cur ∧ D.length ≤ kk)) (fun kv _ => l.size + 9 - (intOf kv).toNat)
                  case atStart => exact ⟨0, [], vW, by omega, rfl, by rw [List.append_nil]; exact HG4.out, rfl, Nat.le_refl _⟩
                  case round =>
                    obtain ⟨kk, D, vX, hkk, rfl, HI⟩ := hrel
                    have vk : IntKind.i64.wrap ((kk : Int) + 8) = (kk : Int) + 8 := IntWalk.i64_in _ (by constructor <;> omega)
                    by_cases z8 : kk + 8 ≤ l.size
                    · have z9 : decide ((kk : Int) + 8 ≤ (l.size : Int)) = true := decide_eq_true (by omega)
                      have z5 : decide ((l.size : Int) < 4) = false := decide_eq_false (by omega)
                      have z4 : (4 : Int) ≤ (l.size : Int) := by omega
                      have z6 : ((l.extract 0 4).toList == [115, 117, 109, 32]) = false := beq_eq_false_iff_ne.2 (HNS.out (by omega))
                      have z7 : ((l.extract 0 4).toList != [115, 117, 109, 32]) = true := by rw [bne, z6]; rfl
                      obtain ⟨v, hv⟩ : ∃ v, valV 16 (l.extract kk (kk + 8)).data.toList = v := ⟨_, rfl⟩
                      obtain ⟨x, hx⟩ : ∃ x, l.extract kk (kk + 8) = x := ⟨_, rfl⟩
                      rw [hx] at hv
                      have hxs : x.size ≤ 8 := by rw [← hx, ByteArray.size_extract]; omega
                      have HVV := Lib.hid hv
                      have HM : Hid (x.size ≤ maxLen) := Lib.hid (by unfold maxLen; omega)
                      have hsl2 : ∀ wx : World, (Instr.slice 9 (.string l) (some (.int .i64 (kk : Int))) (some (.int .i64 ((kk : Int) + 8))) none).run Tryz.prog wx = .ok (.string x) wx := fun wx => by
                        have := run_slice_string (P := Tryz.prog) wx 9 l .i64 .i64 (kk : Int) ((kk : Int) + 8) Tryz.underlying9 (by omega) (by omega) (by omega)
                        rw [this]
                        exact congrArg (fun z => Result.ok (Value.string z) wx) hx
                      have hch : chk (cur.drop kk) = v :: chk (cur.drop (kk + 9)) := by
                        rw [chk, if_pos (by rw [List.length_drop]; have := HLS.out; omega), List.drop_drop]
                        congr 1
                        rw [← hv, ← hx, extract_list, HG3.out, List.drop_take]
                        congr 2
                        all_goals omega
                      have hFd := HI.out.1.bel' ((Bel.refl wr).drew)
                      obtain ⟨v', W2, hrun, hc3, hf3, ⟨p', c', hv'⟩, hall, hF2⟩ := hFd.word v (by rw [List.length_append]; have := HI.out.2.2; have := HG6.out; have := HLS.out; have := HLT.out; omega)
                      obtain ⟨N, hN⟩ : ∃ N, (img.words ++ D).length = N := ⟨_, rfl⟩
                      rw [hN] at hv'
                      subst hv'
                      have hc0 : wr.drew.cell? ⟨b3, 0, none⟩ = some vX := cell_of_heap hFd.hb3 0
                      have q0 : wr.cell? ⟨b3, 0, none⟩ = some vX := cell_of_heap HI.out.1.hb3 0
                      have hc0A : (wr.drew.alloc (.cells #[.int .i64 v] 3)).cell? ⟨b3, 0, none⟩ = some vX := (((Bel.refl wr.drew).alloc _ _).cell (p := ⟨b3, 0, none⟩) (lt_of_heap hFd.hb3)).trans hc0
                      obtain ⟨WA, hWA⟩ : ∃ W, wr.drew.alloc (.cells #[.int .i64 v] 3) = W := ⟨_, rfl⟩
                      have HWA : Hid ((wr.alloc (.cells #[.int .i64 v] 3)).drew = WA) := Lib.hid hWA
                      rw [hWA] at hrun hc0A
                      have HC0A := Lib.hid hc0A
                      have HC0 := Lib.hid hc0
                      have HRUN := Lib.hid hrun
                      have HC3 := Lib.hid hc3
                      have HF3 := Lib.hid hf3
                      have HNW : Hid (FitSt w bx b3 box0 img.mem (.slice p' (N + 1) c') (img.words ++ (D ++ [v])) vS img.syms (W2.setCell ⟨b3, 0, none⟩ (.slice p' (N + 1) c')) ∧ (D ++ [v]) ++ chk (cur.drop (kk + 9)) = chk cur ∧ (D ++ [v]).length ≤ kk + 9) := Lib.hid ⟨by rw [← List.append_assoc]; exact hF2, by rw [← HI.out.2.1, hch]; simp, by rw [List.length_append]; have := HI.out.2.2; simp; omega⟩
                      clear hv hx hWA hrun hc3 hf3 hc0 hc0A hF2 hall hFd hch hN
                      go_wp2_with fail
                      refine wp_region_held_drew (S := fun _ => True) (by kernel_rfl) trivial (fun hS => ?_)
                      refine takeD 86 (i := 0) (v := ?v304) rfl rfl (by kernel_rfl) (by kernel_rfl) (by kernel_rfl) (fun _ _ _ h => h) (by kernel_rfl) ?hy304 trivial ?rest304
                      case hy304 => (intro w0 hSw; first | (go_simp; done) | (go_simp; with_reducible rfl))
                      simp only [List.setIfInBounds_toArray, List.set_cons_zero, List.set_cons_succ]
                      refine takeD 88 (i := 2) (v := ?v305) rfl rfl (by kernel_rfl) (by kernel_rfl) (by kernel_rfl) (fun _ _ _ h => h) (by kernel_rfl) ?hy305 trivial ?rest305
                      case hy305 => (intro w0 hSw; first | (go_simp; done) | (go_simp; with_reducible rfl))
                      simp only [List.setIfInBounds_toArray, List.set_cons_zero, List.set_cons_succ]
                      refine takeD 89 (i := 3) (v := ?v306) rfl rfl (by kernel_rfl) (by kernel_rfl) (by kernel_rfl) (fun _ _ _ h => h) (by kernel_rfl) ?hy306 trivial ?rest306
                      case hy306 => (intro w0 hSw; first | (go_simp; done) | (go_simp; with_reducible rfl))
                      simp only [List.setIfInBounds_toArray, List.set_cons_zero, List.set_cons_succ]
                      refine takeD 90 (i := 4) (v := ?v307) rfl rfl (by kernel_rfl) (by kernel_rfl) (by kernel_rfl) (fun _ _ _ h => h) (by kernel_rfl) ?hy307 trivial ?rest307
                      case hy307 => (intro w0 hSw; first | (go_simp; done) | (go_simp; with_reducible rfl))
                      simp only [List.setIfInBounds_toArray, List.set_cons_zero, List.set_cons_succ]
                      refine takeD 91 (i := 5) (v := ?v308) rfl rfl (by kernel_rfl) (by kernel_rfl) (by kernel_rfl) (fun _ _ _ h => h) (by kernel_rfl) ?hy308 trivial ?rest308
                      case hy308 => (intro w0 hSw; first | (go_simp; done) | (go_simp; with_reducible rfl))
                      simp only [List.setIfInBounds_toArray, List.set_cons_zero, List.set_cons_succ]
                      refine takeD 92 (i := 6) (v := ?v309) rfl rfl (by kernel_rfl) (by kernel_rfl) (by kernel_rfl) (fun _ _ _ h => h) (by kernel_rfl) ?hy309 trivial ?rest309
                      case hy309 => (intro w0 hSw; first | (go_simp; done) | (go_simp; with_reducible rfl))
                      simp only [List.setIfInBounds_toArray, List.set_cons_zero, List.set_cons_succ]
                      refine twoE 87 93 (i1 := 1) (i2 := 7) rfl rfl rfl rfl (by kernel_rfl) (by kernel_rfl) (by kernel_rfl) (fun K hK => ?_) (fun K hK => ?_)
                      · simp only [List.setIfInBounds_toArray, List.set_cons_zero, List.set_cons_succ] at hK
                        have c0 := HC0.out
                        go_simp
                        refine hK _ _ trivial (fun _ => ?_)
                        clear hK K c0
                        refine onlyE 93 (i := 7) rfl rfl (by kernel_rfl) (by kernel_rfl) (fun K hK => ?_)
                        simp only [List.setIfInBounds_toArray, List.set_cons_zero, List.set_cons_succ] at hK
                        go_simp
                        go_at_call 37
                        refine (value_any (Or.inr ⟨rfl, rfl⟩) HM.out HVV.out _).mono ?_
                        rintro e w7 ⟨rfl, rfl⟩
                        refine hK _ _ trivial (fun _ => ?_)
                        clear hK K
                        refine onlyE 94 (i := 8) rfl rfl (by kernel_rfl) (by kernel_rfl) (fun K hK => ?_)
                        simp only [List.setIfInBounds_toArray, List.set_cons_zero, List.set_cons_succ] at hK
                        go_simp
                        rw [HWA.out]
                        refine hK _ WA trivial (fun _ => ?_)
                        clear hK K
                        refine onlyE 95 (i := 9) rfl rfl (by kernel_rfl) (by kernel_rfl) (fun K hK => ?_)
                        simp only [List.setIfInBounds_toArray, List.set_cons_zero, List.set_cons_succ] at hK
                        refine wp_app (.tmp 87) (.tmp 94) 22 rfl _ _ _ (by rfl) (by rfl) HRUN.out rfl ?_
                        simp only [List.setIfInBounds_toArray, List.set_cons_zero, List.set_cons_succ]
                        refine hK _ _ trivial (fun _ => ?_)
                        clear hK K
                        refine takeD 96 (i := 10) (v := ?v301) rfl rfl (by kernel_rfl) (by kernel_rfl) (by kernel_rfl) (fun _ _ _ h => h) (by kernel_rfl) ?hy301 trivial ?rest301
                        case hy301 => (intro w0 hSw; first | (go_simp; done) | (go_simp; with_reducible rfl))
                        simp only [List.setIfInBounds_toArray, List.set_cons_zero, List.set_cons_succ]
                        refine onlyN (i := 11) rfl rfl (by kernel_rfl) (by kernel_rfl) (fun K hK => ?_)
                        have c3 := HC3.out
                        have f3 := HF3.out
                        go_simp
                        refine hK undef _ trivial (fun _ => ?_)
                        clear hK K c3 f3
                        refine wpAnyH_done (by kernel_rfl) ?_ _
                        go_wp2_with fail
                        go_roundw
                        case rel => exact ⟨kk + 9, D ++ [v], _, by omega, by go_num, HNW.out⟩
                        case measure => simp [intOf]; omega
                      · simp only [List.setIfInBounds_toArray, List.set_cons_zero, List.set_cons_succ] at hK
                        go_simp
                        go_at_call 37
                        refine (value_any (Or.inr ⟨rfl, rfl⟩) HM.out HVV.out _).mono ?_
                        rintro e w7 ⟨rfl, rfl⟩
                        refine hK _ _ trivial (fun _ => ?_)
                        clear hK K
                        refine twoE 87 94 (i1 := 1) (i2 := 8) rfl rfl rfl rfl (by kernel_rfl) (by kernel_rfl) (by kernel_rfl) (fun K hK => ?_) (fun K hK => ?_)
                        · simp only [List.setIfInBounds_toArray, List.set_cons_zero, List.set_cons_succ] at hK
                          have c0 := HC0.out
                          go_simp
                          refine hK _ _ trivial (fun _ => ?_)
                          clear hK K c0
                          refine onlyE 94 (i := 8) rfl rfl (by kernel_rfl) (by kernel_rfl) (fun K hK => ?_)
                          simp only [List.setIfInBounds_toArray, List.set_cons_zero, List.set_cons_succ] at hK
                          go_simp
                          rw [HWA.out]
                          refine hK _ WA trivial (fun _ => ?_)
                          clear hK K
                          refine onlyE 95 (i := 9) rfl rfl (by kernel_rfl) (by kernel_rfl) (fun K hK => ?_)
                          simp only [List.setIfInBounds_toArray, List.set_cons_zero, List.set_cons_succ] at hK
                          refine wp_app (.tmp 87) (.tmp 94) 22 rfl _ _ _ (by rfl) (by rfl) HRUN.out rfl ?_
                          simp only [List.setIfInBounds_toArray, List.set_cons_zero, List.set_cons_succ]
                          refine hK _ _ trivial (fun _ => ?_)
                          clear hK K
                          refine takeD 96 (i := 10) (v := ?v302) rfl rfl (by kernel_rfl) (by kernel_rfl) (by kernel_rfl) (fun _ _ _ h => h) (by kernel_rfl) ?hy302 trivial ?rest302
                          case hy302 => (intro w0 hSw; first | (go_simp; done) | (go_simp; with_reducible rfl))
                          simp only [List.setIfInBounds_toArray, List.set_cons_zero, List.set_cons_succ]
                          refine onlyN (i := 11) rfl rfl (by kernel_rfl) (by kernel_rfl) (fun K hK => ?_)
                          have c3 := HC3.out
                          have f3 := HF3.out
                          go_simp
                          refine hK undef _ trivial (fun _ => ?_)
                          clear hK K c3 f3
                          refine wpAnyH_done (by kernel_rfl) ?_ _
                          go_wp2_with fail
                          go_roundw
                          case rel => exact ⟨kk + 9, D ++ [v], _, by omega, by go_num, HNW.out⟩
                          case measure => simp [intOf]; omega
                        · simp only [List.setIfInBounds_toArray, List.set_cons_zero, List.set_cons_succ] at hK
                          go_simp
                          rw [HWA.out]
                          refine hK _ WA trivial (fun _ => ?_)
                          clear hK K
                          refine onlyE 87 (i := 1) rfl rfl (by kernel_rfl) (by kernel_rfl) (fun K hK => ?_)
                          simp only [List.setIfInBounds_toArray, List.set_cons_zero, List.set_cons_succ] at hK
                          have c0 := HC0A.out
                          go_simp
                          refine hK _ _ trivial (fun _ => ?_)
                          clear hK K c0
                          refine onlyE 95 (i := 9) rfl rfl (by kernel_rfl) (by kernel_rfl) (fun K hK => ?_)
                          simp only [List.setIfInBounds_toArray, List.set_cons_zero, List.set_cons_succ] at hK
                          refine wp_app (.tmp 87) (.tmp 94) 22 rfl _ _ _ (by rfl) (by rfl) HRUN.out rfl ?_
                          simp only [List.setIfInBounds_toArray, List.set_cons_zero, List.set_cons_succ]
                          refine hK _ _ trivial (fun _ => ?_)
                          clear hK K
                          refine takeD 96 (i := 10) (v := ?v303) rfl rfl (by kernel_rfl) (by kernel_rfl) (by kernel_rfl) (fun _ _ _ h => h) (by kernel_rfl) ?hy303 trivial ?rest303
                          case hy303 => (intro w0 hSw; first | (go_simp; done) | (go_simp; with_reducible rfl))
                          simp only [List.setIfInBounds_toArray, List.set_cons_zero, List.set_cons_succ]
                          refine onlyN (i := 11) rfl rfl (by kernel_rfl) (by kernel_rfl) (fun K hK => ?_)
                          have c3 := HC3.out
                          have f3 := HF3.out
                          go_simp
                          refine hK undef _ trivial (fun _ => ?_)
                          clear hK K c3 f3
                          refine wpAnyH_done (by kernel_rfl) ?_ _
                          go_wp2_with fail
                          go_roundw
                          case rel => exact ⟨kk + 9, D ++ [v], _, by omega, by go_num, HNW.out⟩
                          case measure => simp [intOf]; omega
                    · have z9 : decide ((kk : Int) + 8 ≤ (l.size : Int)) = false := decide_eq_false (by omega)
                      have hch : chk (cur.drop kk) = [] := by
                        rw [chk, if_neg (by rw [List.length_drop]; have := HLS.out; omega)]
                      have hD : D = chk cur := by rw [← HI.out.2.1, hch, List.append_nil]
                      subst hD
                      have HN : Hid (RdAt s w bx b3 (k + 1) (k + 1) (n + 1) true wr) := Lib.hid (RdAt.line HLT.out HC.out HG1.out HV2.out HI.out.1 (by have := HG6.out; have := HCL.out; simp; omega) HG7.out HG5.out (by have := HLS.out; omega))
                      clear hch z8
                      go_wp2_with fail
                      go_roundw
                      case rel => exact ⟨k + 1, k + 1, n + 1, true, HLT.out, by go_num, by go_num, by go_num, rfl, HN.out⟩
                      case measure => simp [intOf]; have := HLT.out; omega
                · go_wp2_with fail
                  clear q0 q1 q2 u1
                  go_loopw [10] (fun kv wr => ∃ (kk : Nat) (D : List Int) (vX : Value), kk ≤ l.size + 9 ∧ kv = .int .i64 kk ∧ Hid (FitSt w bx b3 box0 img.mem vX (img.words ++ D) vS img.syms wr ∧ D ++ chk (cur.drop kk) = chk cur ∧ D.length ≤ kk)) (fun kv _ => l.size + 9 - (intOf kv).toNat)
                  case atStart => exact ⟨0, [], vW, by omega, rfl, by rw [List.append_nil]; exact HG4.out, rfl, Nat.le_refl _⟩
                  case round =>
                    obtain ⟨kk, D, vX, hkk, rfl, HI⟩ := hrel
                    have vk : IntKind.i64.wrap ((kk : Int) + 8) = (kk : Int) + 8 := IntWalk.i64_in _ (by constructor <;> omega)
                    by_cases z8 : kk + 8 ≤ l.size
                    · have z9 : decide ((kk : Int) + 8 ≤ (l.size : Int)) = true := decide_eq_true (by omega)
                      have z5 : decide ((l.size : Int) < 4) = false := decide_eq_false (by omega)
                      have z4 : (4 : Int) ≤ (l.size : Int) := by omega
                      have z6 : ((l.extract 0 4).toList == [115, 117, 109, 32]) = false := beq_eq_false_iff_ne.2 (HNS.out (by omega))
                      have z7 : ((l.extract 0 4).toList != [115, 117, 109, 32]) = true := by rw [bne, z6]; rfl
                      obtain ⟨v, hv⟩ : ∃ v, valV 16 (l.extract kk (kk + 8)).data.toList = v := ⟨_, rfl⟩
                      obtain ⟨x, hx⟩ : ∃ x, l.extract kk (kk + 8) = x := ⟨_, rfl⟩
                      rw [hx] at hv
                      have hxs : x.size ≤ 8 := by rw [← hx, ByteArray.size_extract]; omega
                      have HVV := Lib.hid hv
                      have HM : Hid (x.size ≤ maxLen) := Lib.hid (by unfold maxLen; omega)
                      have hsl2 : ∀ wx : World, (Instr.slice 9 (.string l) (some (.int .i64 (kk : Int))) (some (.int .i64 ((kk : Int) + 8))) none).run Tryz.prog wx = .ok (.string x) wx := fun wx => by
                        have := run_slice_string (P := Tryz.prog) wx 9 l .i64 .i64 (kk : Int) ((kk : Int) + 8) Tryz.underlying9 (by omega) (by omega) (by omega)
                        rw [this]
                        exact congrArg (fun z => Result.ok (Value.string z) wx) hx
                      have hch : chk (cur.drop kk) = v :: chk (cur.drop (kk + 9)) := by
                        rw [chk, if_pos (by rw [List.length_drop]; have := HLS.out; omega), List.drop_drop]
                        congr 1
                        rw [← hv, ← hx, extract_list, HG3.out, List.drop_take]
                        congr 2
                        all_goals omega
                      have hFd := HI.out.1.bel' ((Bel.refl wr).drew)
                      obtain ⟨v', W2, hrun, hc3, hf3, ⟨p', c', hv'⟩, hall, hF2⟩ := hFd.word v (by rw [List.length_append]; have := HI.out.2.2; have := HG6.out; have := HLS.out; have := HLT.out; omega)
                      obtain ⟨N, hN⟩ : ∃ N, (img.words ++ D).length = N := ⟨_, rfl⟩
                      rw [hN] at hv'
                      subst hv'
                      have hc0 : wr.drew.cell? ⟨b3, 0, none⟩ = some vX := cell_of_heap hFd.hb3 0
                      have q0 : wr.cell? ⟨b3, 0, none⟩ = some vX := cell_of_heap HI.out.1.hb3 0
                      have hc0A : (wr.drew.alloc (.cells #[.int .i64 v] 3)).cell? ⟨b3, 0, none⟩ = some vX := (((Bel.refl wr.drew).alloc _ _).cell (p := ⟨b3, 0, none⟩) (lt_of_heap hFd.hb3)).trans hc0
                      obtain ⟨WA, hWA⟩ : ∃ W, wr.drew.alloc (.cells #[.int .i64 v] 3) = W := ⟨_, rfl⟩
                      have HWA : Hid ((wr.alloc (.cells #[.int .i64 v] 3)).drew = WA) := Lib.hid hWA
                      rw [hWA] at hrun hc0A
                      have HC0A := Lib.hid hc0A
                      have HC0 := Lib.hid hc0
                      have HRUN := Lib.hid hrun
                      have HC3 := Lib.hid hc3
                      have HF3 := Lib.hid hf3
                      have HNW : Hid (FitSt w bx b3 box0 img.mem (.slice p' (N + 1) c') (img.words ++ (D ++ [v])) vS img.syms (W2.setCell ⟨b3, 0, none⟩ (.slice p' (N + 1) c')) ∧ (D ++ [v]) ++ chk (cur.drop (kk + 9)) = chk cur ∧ (D ++ [v]).length ≤ kk + 9) := Lib.hid ⟨by rw [← List.append_assoc]; exact hF2, by rw [← HI.out.2.1, hch]; simp, by rw [List.length_append]; have := HI.out.2.2; simp; omega⟩
                      clear hv hx hWA hrun hc3 hf3 hc0 hc0A hF2 hall hFd hch hN
                      go_wp2_with fail
                      refine wp_region_held_drew (S := fun _ => True) (by kernel_rfl) trivial (fun hS => ?_)
                      refine takeD 86 (i := 0) (v := ?v313) rfl rfl (by kernel_rfl) (by kernel_rfl) (by kernel_rfl) (fun _ _ _ h => h) (by kernel_rfl) ?hy313 trivial ?rest313
                      case hy313 => (intro w0 hSw; first | (go_simp; done) | (go_simp; with_reducible rfl))
                      simp only [List.setIfInBounds_toArray, List.set_cons_zero, List.set_cons_succ]
                      refine takeD 88 (i := 2) (v := ?v314) rfl rfl (by kernel_rfl) (by kernel_rfl) (by kernel_rfl) (fun _ _ _ h => h) (by kernel_rfl) ?hy314 trivial ?rest314
                      case hy314 => (intro w0 hSw; first | (go_simp; done) | (go_simp; with_reducible rfl))
                      simp only [List.setIfInBounds_toArray, List.set_cons_zero, List.set_cons_succ]
                      refine takeD 89 (i := 3) (v := ?v315) rfl rfl (by kernel_rfl) (by kernel_rfl) (by kernel_rfl) (fun _ _ _ h => h) (by kernel_rfl) ?hy315 trivial ?rest315
                      case hy315 => (intro w0 hSw; first | (go_simp; done) | (go_simp; with_reducible rfl))
                      simp only [List.setIfInBounds_toArray, List.set_cons_zero, List.set_cons_succ]
                      refine takeD 90 (i := 4) (v := ?v316) rfl rfl (by kernel_rfl) (by kernel_rfl) (by kernel_rfl) (fun _ _ _ h => h) (by kernel_rfl) ?hy316 trivial ?rest316
                      case hy316 => (intro w0 hSw; first | (go_simp; done) | (go_simp; with_reducible rfl))
                      simp only [List.setIfInBounds_toArray, List.set_cons_zero, List.set_cons_succ]
                      refine takeD 91 (i := 5) (v := ?v317) rfl rfl (by kernel_rfl) (by kernel_rfl) (by kernel_rfl) (fun _ _ _ h => h) (by kernel_rfl) ?hy317 trivial ?rest317
                      case hy317 => (intro w0 hSw; first | (go_simp; done) | (go_simp; with_reducible rfl))
                      simp only [List.setIfInBounds_toArray, List.set_cons_zero, List.set_cons_succ]
                      refine takeD 92 (i := 6) (v := ?v318) rfl rfl (by kernel_rfl) (by kernel_rfl) (by kernel_rfl) (fun _ _ _ h => h) (by kernel_rfl) ?hy318 trivial ?rest318
                      case hy318 => (intro w0 hSw; first | (go_simp; done) | (go_simp; with_reducible rfl))
                      simp only [List.setIfInBounds_toArray, List.set_cons_zero, List.set_cons_succ]
                      refine twoE 87 93 (i1 := 1) (i2 := 7) rfl rfl rfl rfl (by kernel_rfl) (by kernel_rfl) (by kernel_rfl) (fun K hK => ?_) (fun K hK => ?_)
                      · simp only [List.setIfInBounds_toArray, List.set_cons_zero, List.set_cons_succ] at hK
                        have c0 := HC0.out
                        go_simp
                        refine hK _ _ trivial (fun _ => ?_)
                        clear hK K c0
                        refine onlyE 93 (i := 7) rfl rfl (by kernel_rfl) (by kernel_rfl) (fun K hK => ?_)
                        simp only [List.setIfInBounds_toArray, List.set_cons_zero, List.set_cons_succ] at hK
                        go_simp
                        go_at_call 37
                        refine (value_any (Or.inr ⟨rfl, rfl⟩) HM.out HVV.out _).mono ?_
                        rintro e w7 ⟨rfl, rfl⟩
                        refine hK _ _ trivial (fun _ => ?_)
                        clear hK K
                        refine onlyE 94 (i := 8) rfl rfl (by kernel_rfl) (by kernel_rfl) (fun K hK => ?_)
                        simp only [List.setIfInBounds_toArray, List.set_cons_zero, List.set_cons_succ] at hK
                        go_simp
                        rw [HWA.out]
                        refine hK _ WA trivial (fun _ => ?_)
                        clear hK K
                        refine onlyE 95 (i := 9) rfl rfl (by kernel_rfl) (by kernel_rfl) (fun K hK => ?_)
                        simp only [List.setIfInBounds_toArray, List.set_cons_zero, List.set_cons_succ] at hK
                        refine wp_app (.tmp 87) (.tmp 94) 22 rfl _ _ _ (by rfl) (by rfl) HRUN.out rfl ?_
                        simp only [List.setIfInBounds_toArray, List.set_cons_zero, List.set_cons_succ]
                        refine hK _ _ trivial (fun _ => ?_)
                        clear hK K
                        refine takeD 96 (i := 10) (v := ?v310) rfl rfl (by kernel_rfl) (by kernel_rfl) (by kernel_rfl) (fun _ _ _ h => h) (by kernel_rfl) ?hy310 trivial ?rest310
                        case hy310 => (intro w0 hSw; first | (go_simp; done) | (go_simp; with_reducible rfl))
                        simp only [List.setIfInBounds_toArray, List.set_cons_zero, List.set_cons_succ]
                        refine onlyN (i := 11) rfl rfl (by kernel_rfl) (by kernel_rfl) (fun K hK => ?_)
                        have c3 := HC3.out
                        have f3 := HF3.out
                        go_simp
                        refine hK undef _ trivial (fun _ => ?_)
                        clear hK K c3 f3
                        refine wpAnyH_done (by kernel_rfl) ?_ _
                        go_wp2_with fail
                        go_roundw
                        case rel => exact ⟨kk + 9, D ++ [v], _, by omega, by go_num, HNW.out⟩
                        case measure => simp [intOf]; omega
                      · simp only [List.setIfInBounds_toArray, List.set_cons_zero, List.set_cons_succ] at hK
                        go_simp
                        go_at_call 37
                        refine (value_any (Or.inr ⟨rfl, rfl⟩) HM.out HVV.out _).mono ?_
                        rintro e w7 ⟨rfl, rfl⟩
                        refine hK _ _ trivial (fun _ => ?_)
                        clear hK K
                        refine twoE 87 94 (i1 := 1) (i2 := 8) rfl rfl rfl rfl (by kernel_rfl) (by kernel_rfl) (by kernel_rfl) (fun K hK => ?_) (fun K hK => ?_)
                        · simp only [List.setIfInBounds_toArray, List.set_cons_zero, List.set_cons_succ] at hK
                          have c0 := HC0.out
                          go_simp
                          refine hK _ _ trivial (fun _ => ?_)
                          clear hK K c0
                          refine onlyE 94 (i := 8) rfl rfl (by kernel_rfl) (by kernel_rfl) (fun K hK => ?_)
                          simp only [List.setIfInBounds_toArray, List.set_cons_zero, List.set_cons_succ] at hK
                          go_simp
                          rw [HWA.out]
                          refine hK _ WA trivial (fun _ => ?_)
                          clear hK K
                          refine onlyE 95 (i := 9) rfl rfl (by kernel_rfl) (by kernel_rfl) (fun K hK => ?_)
                          simp only [List.setIfInBounds_toArray, List.set_cons_zero, List.set_cons_succ] at hK
                          refine wp_app (.tmp 87) (.tmp 94) 22 rfl _ _ _ (by rfl) (by rfl) HRUN.out rfl ?_
                          simp only [List.setIfInBounds_toArray, List.set_cons_zero, List.set_cons_succ]
                          refine hK _ _ trivial (fun _ => ?_)
                          clear hK K
                          refine takeD 96 (i := 10) (v := ?v311) rfl rfl (by kernel_rfl) (by kernel_rfl) (by kernel_rfl) (fun _ _ _ h => h) (by kernel_rfl) ?hy311 trivial ?rest311
                          case hy311 => (intro w0 hSw; first | (go_simp; done) | (go_simp; with_reducible rfl))
                          simp only [List.setIfInBounds_toArray, List.set_cons_zero, List.set_cons_succ]
                          refine onlyN (i := 11) rfl rfl (by kernel_rfl) (by kernel_rfl) (fun K hK => ?_)
                          have c3 := HC3.out
                          have f3 := HF3.out
                          go_simp
                          refine hK undef _ trivial (fun _ => ?_)
                          clear hK K c3 f3
                          refine wpAnyH_done (by kernel_rfl) ?_ _
                          go_wp2_with fail
                          go_roundw
                          case rel => exact ⟨kk + 9, D ++ [v], _, by omega, by go_num, HNW.out⟩
                          case measure => simp [intOf]; omega
                        · simp only [List.setIfInBounds_toArray, List.set_cons_zero, List.set_cons_succ] at hK
                          go_simp
                          rw [HWA.out]
                          refine hK _ WA trivial (fun _ => ?_)
                          clear hK K
                          refine onlyE 87 (i := 1) rfl rfl (by kernel_rfl) (by kernel_rfl) (fun K hK => ?_)
                          simp only [List.setIfInBounds_toArray, List.set_cons_zero, List.set_cons_succ] at hK
                          have c0 := HC0A.out
                          go_simp
                          refine hK _ _ trivial (fun _ => ?_)
                          clear hK K c0
                          refine onlyE 95 (i := 9) rfl rfl (by kernel_rfl) (by kernel_rfl) (fun K hK => ?_)
                          simp only [List.setIfInBounds_toArray, List.set_cons_zero, List.set_cons_succ] at hK
                          refine wp_app (.tmp 87) (.tmp 94) 22 rfl _ _ _ (by rfl) (by rfl) HRUN.out rfl ?_
                          simp only [List.setIfInBounds_toArray, List.set_cons_zero, List.set_cons_succ]
                          refine hK _ _ trivial (fun _ => ?_)
                          clear hK K
                          refine takeD 96 (i := 10) (v := ?v312) rfl rfl (by kernel_rfl) (by kernel_rfl) (by kernel_rfl) (fun _ _ _ h => h) (by kernel_rfl) ?hy312 trivial ?rest312
                          case hy312 => (intro w0 hSw; first | (go_simp; done) | (go_simp; with_reducible rfl))
                          simp only [List.setIfInBounds_toArray, List.set_cons_zero, List.set_cons_succ]
                          refine onlyN (i := 11) rfl rfl (by kernel_rfl) (by kernel_rfl) (fun K hK => ?_)
                          have c3 := HC3.out
                          have f3 := HF3.out
                          go_simp
                          refine hK undef _ trivial (fun _ => ?_)
                          clear hK K c3 f3
                          refine wpAnyH_done (by kernel_rfl) ?_ _
                          go_wp2_with fail
                          go_roundw
                          case rel => exact ⟨kk + 9, D ++ [v], _, by omega, by go_num, HNW.out⟩
                          case measure => simp [intOf]; omega
                    · have z9 : decide ((kk : Int) + 8 ≤ (l.size : Int)) = false := decide_eq_false (by omega)
                      have hch : chk (cur.drop kk) = [] := by
                        rw [chk, if_neg (by rw [List.length_drop]; have := HLS.out; omega)]
                      have hD : D = chk cur := by rw [← HI.out.2.1, hch, List.append_nil]
                      subst hD
                      have HN : Hid (RdAt s w bx b3 (k + 1) (k + 1) (n + 1) true wr) := Lib.hid (RdAt.line HLT.out HC.out HG1.out HV2.out HI.out.1 (by have := HG6.out; have := HCL.out; simp; omega) HG7.out HG5.out (by have := HLS.out; omega))
                      clear hch z8
                      go_wp2_with fail
                      go_roundw
                      case rel => exact ⟨k + 1, k + 1, n + 1, true, HLT.out, by go_num, by go_num, by go_num, rfl, HN.out⟩
                      case measure => simp [intOf]; have := HLT.out; omega
            | false =>
              have hlc : (l.toList == [99, 111, 100, 101]) = false := by
                rw [beq_eq_false_iff_ne, ByteArray.toList_eq, HG3.out]
                exact fun c => c2 ⟨c, rfl⟩
              by_cases c3 : 9 < l.size
              · have HV : Hid (lineV ⟨img, n, false, cur⟩ cur = ⟨⟨img.words, img.mem, img.syms ++ [⟨str (cur.drop 9), valV 16 (cur.take 8)⟩]⟩, n + 1, false, []⟩) := Lib.hid (by unfold lineV; rw [if_neg (by rw [← HLS.out]; exact c1), if_neg c2, if_pos ⟨rfl, by have := HLS.out; omega⟩])
                have hn2 : ((n : Int) + 1 == 1) = false := by rw [beq_eq_false_iff_ne]; omega
                obtain ⟨v, hv⟩ : ∃ v, valV 16 (l.extract 0 8).data.toList = v := ⟨_, rfl⟩
                obtain ⟨x, hx⟩ : ∃ x, l.extract 9 l.size = x := ⟨_, rfl⟩
                have HVV := Lib.hid hv
                have HVE : Hid (valV 16 (cur.take 8) = v) := Lib.hid (by rw [← hv, extract_list, HG3.out, List.drop_zero])
                have HXE : Hid (str (cur.drop 9) = x) := Lib.hid (by rw [← hx, ← HG3.out, ← str_of (l.extract 9 l.size), extract_list, List.take_of_length_le (by simp)])
                have HXX := Lib.hid hx
                have HM : Hid ((l.extract 0 8).size ≤ maxLen) := Lib.hid (by rw [ByteArray.size_extract]; unfold maxLen; omega)
                have hFd := HG4.out.bel' ((Bel.refl wq).drew)
                obtain ⟨v', W2, hrun, hc3, hf3, ⟨p', c', hv'⟩, hall, hF2⟩ := hFd.sym x v (by have := HG6.out; omega)
                subst hv'
                have hc0 : wq.drew.cell? ⟨b3, 2, none⟩ = some vS := cell_of_heap hFd.hb3 2
                have hc0A : (wq.drew.alloc (.cells #[.string x, .int .i64 v] 42)).cell? ⟨b3, 2, none⟩ = some vS := (((Bel.refl wq.drew).alloc _ _).cell (p := ⟨b3, 2, none⟩) (lt_of_heap hFd.hb3)).trans hc0
                obtain ⟨WA, hWA⟩ : ∃ W, wq.drew.alloc (.cells #[.string x, .int .i64 v] 42) = W := ⟨_, rfl⟩
                have HWA : Hid ((wq.alloc (.cells #[.string (l.extract 9 l.size), .int .i64 v] 42)).drew = WA) := Lib.hid (by rw [hx]; exact hWA)
                rw [hWA] at hrun hc0A
                have HC0A := Lib.hid hc0A
                have HC0 := Lib.hid hc0
                have HRUN := Lib.hid hrun
                have HC3 := Lib.hid hc3
                have HF3 := Lib.hid hf3
                have HN : Hid (RdAt s w bx b3 (k + 1) (k + 1) (n + 1) false (W2.setCell ⟨b3, 2, none⟩ (.slice p' (img.syms.length + 1) c'))) := Lib.hid (RdAt.line HLT.out HC.out HG1.out (by rw [HV.out, HVE.out, HXE.out]) hF2 (by have := HG6.out; have := HLS.out; simp; omega) HG7.out HG5.out (by have := HLS.out; omega))
                have s1 : (9 : Int) ≤ (l.size : Int) := by omega
                have s2 : (8 : Int) ≤ (l.size : Int) := by omega
                have s3 : decide ((9 : Int) < (l.size : Int)) = true := decide_eq_true (by omega)
                clear hv hx hWA hrun hc3 hf3 hc0 hc0A hF2 hall hFd c1 c2 c3 q0 q1 q2 u1
                go_wp2_with fail
                refine wp_region_held_drew (S := fun _ => True) (by kernel_rfl) trivial (fun hS => ?_)
                refine takeD 56 (i := 0) (v := ?v106) rfl rfl (by kernel_rfl) (by kernel_rfl) (by kernel_rfl) (fun _ _ _ h => h) (by kernel_rfl) ?hy106 trivial ?rest106
                case hy106 => (intro w0 hSw; first | (go_simp; done) | (go_simp; with_reducible rfl))
                simp only [List.setIfInBounds_toArray, List.set_cons_zero, List.set_cons_succ]
                refine takeD 58 (i := 2) (v := ?v107) rfl rfl (by kernel_rfl) (by kernel_rfl) (by kernel_rfl) (fun _ _ _ h => h) (by kernel_rfl) ?hy107 trivial ?rest107
                case hy107 => (intro w0 hSw; first | (go_simp; done) | (go_simp; with_reducible rfl))
                simp only [List.setIfInBounds_toArray, List.set_cons_zero, List.set_cons_succ]
                refine takeD 59 (i := 3) (v := ?v108) rfl rfl (by kernel_rfl) (by kernel_rfl) (by kernel_rfl) (fun _ _ _ h => h) (by kernel_rfl) ?hy108 trivial ?rest108
                case hy108 => (intro w0 hSw; first | (go_simp; done) | (go_simp; with_reducible rfl))
                simp only [List.setIfInBounds_toArray, List.set_cons_zero, List.set_cons_succ]
                refine takeD 60 (i := 4) (v := ?v109) rfl rfl (by kernel_rfl) (by kernel_rfl) (by kernel_rfl) (fun _ _ _ h => h) (by kernel_rfl) ?hy109 trivial ?rest109
                case hy109 => (intro w0 hSw; first | (go_simp; done) | (go_simp; with_reducible rfl))
                simp only [List.setIfInBounds_toArray, List.set_cons_zero, List.set_cons_succ]
                refine takeD 61 (i := 5) (v := ?v110) rfl rfl (by kernel_rfl) (by kernel_rfl) (by kernel_rfl) (fun _ _ _ h => h) (by kernel_rfl) ?hy110 trivial ?rest110
                case hy110 => (intro w0 hSw; first | (go_simp; done) | (go_simp; with_reducible rfl))
                simp only [List.setIfInBounds_toArray, List.set_cons_zero, List.set_cons_succ]
                refine twoE 57 62 (i1 := 1) (i2 := 6) rfl rfl rfl rfl (by kernel_rfl) (by kernel_rfl) (by kernel_rfl) (fun K hK => ?_) (fun K hK => ?_)
                · simp only [List.setIfInBounds_toArray, List.set_cons_zero, List.set_cons_succ] at hK
                  have c0 := HC0.out
                  go_simp
                  refine hK _ _ trivial (fun _ => ?_)
                  clear hK K c0
                  refine onlyE 62 (i := 6) rfl rfl (by kernel_rfl) (by kernel_rfl) (fun K hK => ?_)
                  simp only [List.setIfInBounds_toArray, List.set_cons_zero, List.set_cons_succ] at hK
                  go_simp
                  go_at_call 37
                  refine (value_any (Or.inr ⟨rfl, rfl⟩) HM.out HVV.out _).mono ?_
                  rintro e w7 ⟨rfl, rfl⟩
                  refine hK _ _ trivial (fun _ => ?_)
                  clear hK K
                  refine takeD 63 (i := 7) (v := ?v101) rfl rfl (by kernel_rfl) (by kernel_rfl) (by kernel_rfl) (fun _ _ _ h => h) (by kernel_rfl) ?hy101 trivial ?rest101
                  case hy101 => (intro w0 hSw; first | (go_simp; done) | (go_simp; with_reducible rfl))
                  simp only [List.setIfInBounds_toArray, List.set_cons_zero, List.set_cons_succ]
                  refine onlyE 64 (i := 8) rfl rfl (by kernel_rfl) (by kernel_rfl) (fun K hK => ?_)
                  simp only [List.setIfInBounds_toArray, List.set_cons_zero, List.set_cons_succ] at hK
                  go_simp
                  rw [HWA.out]
                  refine hK _ WA trivial (fun _ => ?_)
                  clear hK K
                  refine onlyE 65 (i := 9) rfl rfl (by kernel_rfl) (by kernel_rfl) (fun K hK => ?_)
                  simp only [List.setIfInBounds_toArray, List.set_cons_zero, List.set_cons_succ] at hK
                  refine wp_app (.tmp 57) (.tmp 64) 23 rfl _ _ _ (by rfl) (by rfl) HRUN.out rfl ?_
                  simp only [List.setIfInBounds_toArray, List.set_cons_zero, List.set_cons_succ]
                  refine hK _ _ trivial (fun _ => ?_)
                  clear hK K
                  refine takeD 66 (i := 10) (v := ?v102) rfl rfl (by kernel_rfl) (by kernel_rfl) (by kernel_rfl) (fun _ _ _ h => h) (by kernel_rfl) ?hy102 trivial ?rest102
                  case hy102 => (intro w0 hSw; first | (go_simp; done) | (go_simp; with_reducible rfl))
                  simp only [List.setIfInBounds_toArray, List.set_cons_zero, List.set_cons_succ]
                  refine onlyN (i := 11) rfl rfl (by kernel_rfl) (by kernel_rfl) (fun K hK => ?_)
                  have c3 := HC3.out
                  have f3 := HF3.out
                  go_simp
                  refine hK undef _ trivial (fun _ => ?_)
                  clear hK K c3 f3
                  refine wpAnyH_done (by kernel_rfl) ?_ _
                  go_wp2_with fail
                  go_roundw
                  case rel => exact ⟨k + 1, k + 1, n + 1, false, HLT.out, by go_num, by go_num, by go_num, rfl, HN.out⟩
                  case measure => simp [intOf]; have := HLT.out; omega
                · simp only [List.setIfInBounds_toArray, List.set_cons_zero, List.set_cons_succ] at hK
                  go_simp
                  go_at_call 37
                  refine (value_any (Or.inr ⟨rfl, rfl⟩) HM.out HVV.out _).mono ?_
                  rintro e w7 ⟨rfl, rfl⟩
                  refine hK _ _ trivial (fun _ => ?_)
                  clear hK K
                  refine takeD 63 (i := 7) (v := ?v105) rfl rfl (by kernel_rfl) (by kernel_rfl) (by kernel_rfl) (fun _ _ _ h => h) (by kernel_rfl) ?hy105 trivial ?rest105
                  case hy105 => (intro w0 hSw; first | (go_simp; done) | (go_simp; with_reducible rfl))
                  simp only [List.setIfInBounds_toArray, List.set_cons_zero, List.set_cons_succ]
                  refine twoE 57 64 (i1 := 1) (i2 := 8) rfl rfl rfl rfl (by kernel_rfl) (by kernel_rfl) (by kernel_rfl) (fun K hK => ?_) (fun K hK => ?_)
                  · simp only [List.setIfInBounds_toArray, List.set_cons_zero, List.set_cons_succ] at hK
                    have c0 := HC0.out
                    go_simp
                    refine hK _ _ trivial (fun _ => ?_)
                    clear hK K c0
                    refine onlyE 64 (i := 8) rfl rfl (by kernel_rfl) (by kernel_rfl) (fun K hK => ?_)
                    simp only [List.setIfInBounds_toArray, List.set_cons_zero, List.set_cons_succ] at hK
                    go_simp
                    rw [HWA.out]
                    refine hK _ WA trivial (fun _ => ?_)
                    clear hK K
                    refine onlyE 65 (i := 9) rfl rfl (by kernel_rfl) (by kernel_rfl) (fun K hK => ?_)
                    simp only [List.setIfInBounds_toArray, List.set_cons_zero, List.set_cons_succ] at hK
                    refine wp_app (.tmp 57) (.tmp 64) 23 rfl _ _ _ (by rfl) (by rfl) HRUN.out rfl ?_
                    simp only [List.setIfInBounds_toArray, List.set_cons_zero, List.set_cons_succ]
                    refine hK _ _ trivial (fun _ => ?_)
                    clear hK K
                    refine takeD 66 (i := 10) (v := ?v103) rfl rfl (by kernel_rfl) (by kernel_rfl) (by kernel_rfl) (fun _ _ _ h => h) (by kernel_rfl) ?hy103 trivial ?rest103
                    case hy103 => (intro w0 hSw; first | (go_simp; done) | (go_simp; with_reducible rfl))
                    simp only [List.setIfInBounds_toArray, List.set_cons_zero, List.set_cons_succ]
                    refine onlyN (i := 11) rfl rfl (by kernel_rfl) (by kernel_rfl) (fun K hK => ?_)
                    have c3 := HC3.out
                    have f3 := HF3.out
                    go_simp
                    refine hK undef _ trivial (fun _ => ?_)
                    clear hK K c3 f3
                    refine wpAnyH_done (by kernel_rfl) ?_ _
                    go_wp2_with fail
                    go_roundw
                    case rel => exact ⟨k + 1, k + 1, n + 1, false, HLT.out, by go_num, by go_num, by go_num, rfl, HN.out⟩
                    case measure => simp [intOf]; have := HLT.out; omega
                  · simp only [List.setIfInBounds_toArray, List.set_cons_zero, List.set_cons_succ] at hK
                    go_simp
                    rw [HWA.out]
                    refine hK _ WA trivial (fun _ => ?_)
                    clear hK K
                    refine onlyE 57 (i := 1) rfl rfl (by kernel_rfl) (by kernel_rfl) (fun K hK => ?_)
                    simp only [List.setIfInBounds_toArray, List.set_cons_zero, List.set_cons_succ] at hK
                    have c0 := HC0A.out
                    go_simp
                    refine hK _ _ trivial (fun _ => ?_)
                    clear hK K c0
                    refine onlyE 65 (i := 9) rfl rfl (by kernel_rfl) (by kernel_rfl) (fun K hK => ?_)
                    simp only [List.setIfInBounds_toArray, List.set_cons_zero, List.set_cons_succ] at hK
                    refine wp_app (.tmp 57) (.tmp 64) 23 rfl _ _ _ (by rfl) (by rfl) HRUN.out rfl ?_
                    simp only [List.setIfInBounds_toArray, List.set_cons_zero, List.set_cons_succ]
                    refine hK _ _ trivial (fun _ => ?_)
                    clear hK K
                    refine takeD 66 (i := 10) (v := ?v104) rfl rfl (by kernel_rfl) (by kernel_rfl) (by kernel_rfl) (fun _ _ _ h => h) (by kernel_rfl) ?hy104 trivial ?rest104
                    case hy104 => (intro w0 hSw; first | (go_simp; done) | (go_simp; with_reducible rfl))
                    simp only [List.setIfInBounds_toArray, List.set_cons_zero, List.set_cons_succ]
                    refine onlyN (i := 11) rfl rfl (by kernel_rfl) (by kernel_rfl) (fun K hK => ?_)
                    have c3 := HC3.out
                    have f3 := HF3.out
                    go_simp
                    refine hK undef _ trivial (fun _ => ?_)
                    clear hK K c3 f3
                    refine wpAnyH_done (by kernel_rfl) ?_ _
                    go_wp2_with fail
                    go_roundw
                    case rel => exact ⟨k + 1, k + 1, n + 1, false, HLT.out, by go_num, by go_num, by go_num, rfl, HN.out⟩
                    case measure => simp [intOf]; have := HLT.out; omega
              · have HV : Hid (lineV ⟨img, n, false, cur⟩ cur = ⟨img, n + 1, false, []⟩) := Lib.hid (by unfold lineV; rw [if_neg (by rw [← HLS.out]; exact c1), if_neg c2, if_neg (by rw [← HLS.out]; exact fun c => c3 c.2), if_neg (by simp)])
                have HN : Hid (RdAt s w bx b3 (k + 1) (k + 1) (n + 1) false wq) := Lib.hid (RdAt.line HLT.out HC.out HG1.out HV.out HG4.out (by have := HG6.out; omega) HG7.out HG5.out (by have := HLS.out; omega))
                have c3' : decide ((9 : Int) < (l.size : Int)) = false := decide_eq_false (by omega)
                rcases (show n = 0 ∧ l.size ≤ 6 ∨ 0 < n by omega) with hn | hn
                · obtain ⟨rfl, c4⟩ := hn
                  have c4' : decide ((6 : Int) < (l.size : Int)) = false := decide_eq_false (by omega)
                  clear c1 c2 c3 c4
                  go_wp2_with fail
                  go_roundw
                  case rel => exact ⟨k + 1, k + 1, 0 + 1, false, HLT.out, by go_num, by go_num, by go_num, rfl, HN.out⟩
                  case measure => simp [intOf]; have := HLT.out; omega
                · have hn2 : ((n : Int) + 1 == 1) = false := by rw [beq_eq_false_iff_ne]; omega
                  clear c1 c2 c3
                  go_wp2_with fail
                  go_roundw
                  case rel => exact ⟨k + 1, k + 1, n + 1, false, HLT.out, by go_num, by go_num, by go_num, rfl, HN.out⟩
                  case measure => simp [intOf]; have := HLT.out; omega
      · have hc1 : ¬ s[k].toNat = 10 := fun c => hc (by apply UInt8.toNat_inj.1; rw [c]; rfl)
        have hc2 : ((s[k].toNat : Int) != 10) = true := by simp; omega
        have HN := Lib.hid (HA.out.byte hlt hc)
        have HLT := Lib.hid hlt
        clear hc hc1
        go_wp2_with fail
        go_roundw
        case rel => exact ⟨k + 1, f, n, code, HLT.out, by go_num, rfl, rfl, rfl, HN.out⟩
        case measure => simp [intOf]; have := HLT.out; omega
    · obtain rfl : k = s.size := by omega
      obtain ⟨img, cur, vW, vS, g1, g2, g3, g4, g5, g6, g7, g8⟩ := HA.out
      rw [List.take_of_length_le (by simp)] at g1
      have e1 : (rdF rd0 s.data.toList).img = img := by rw [g1]
      have e2 : Lib.countByte s.data.toList 10 = n := by
        have := rdF_n s.data.toList rd0
        rw [g1] at this
        show _ = _
        have h0 : rd0.n = 0 := rfl
        rw [h0] at this
        simp only at this
        omega
      obtain rfl : img = mI := e1.symm.trans HMI.out
      obtain rfl : n = cN := e2.symm.trans HCN.out
      clear HMI HCN
      obtain ⟨pW, cW, hvW, _, hloW⟩ := ERow.form (enc := icell) (k := 1) (fun _ => rfl) g4.ws
      obtain ⟨pS, cS, hvS, _, hloS⟩ := ERow.form (enc := scell) (k := 2) (fun _ => rfl) g4.ss
      have HLO : Hid (Lo w.heap.size pW ∧ Lo w.heap.size pS) := Lib.hid ⟨fun q hq => (hloW q hq).1, fun q hq => (hloS q hq).1⟩
      clear hloW hloS
      subst hvW hvS
      obtain ⟨ml, mi, ms⟩ := img
      simp only at g4 g5 g6 ⊢
      have hb3 := g4.hb3
      have hb2 := g4.hbx
      obtain ⟨hi1, hn1⟩ := erow_at (enc := icell) (k := 1) (fun _ => rfl) g4.ws
      obtain ⟨hi2, hn2⟩ := erow_at (enc := scell) (k := 2) (fun _ => rfl) g4.ss
      have hI : ImgAt wq pW pS ⟨ml, mi, ms⟩ := ⟨hi1, hi2, fun x hx => by have := g5.1 x hx; omega, fun x hx => by have := g5.2.2 x hx; unfold maxLen; omega, by have h := g5.2.1; simp only at h; show _ ≤ mi ∧ mi ≤ _; omega, by show ml.length ≤ _; omega, by show ms.length ≤ _; omega⟩
      have hnw := hn1 hb2 (by decide)
      have hns := hn2 hb2 (by decide)
      have HI := Lib.hid hI
      have HNW := Lib.hid hnw
      have HNS := Lib.hid hns
      have HBX := Lib.hid hb2
      have c0 : wq.cell? ⟨b3, 0, none⟩ = some (.slice pW ml.length cW) := cell_of_heap hb3 0
      have c1 : wq.cell? ⟨b3, 1, none⟩ = some (.int .i64 mi) := cell_of_heap hb3 1
      have c2 : wq.cell? ⟨b3, 2, none⟩ = some (.slice pS ms.length cS) := cell_of_heap hb3 2
      have d0 : wq.cell? ⟨bx, 0, none⟩ = some (.slice none 0 0) := cell_of_heap hb2 0
      have d1 : wq.cell? ⟨bx, 1, none⟩ = some (.int .i64 0) := cell_of_heap hb2 1
      have d2 : wq.cell? ⟨bx, 2, none⟩ = some (.slice none 0 0) := cell_of_heap hb2 2
      have f0 := frozen_of_heap hb2 0
      have f1 := frozen_of_heap hb2 1
      have f2 := frozen_of_heap hb2 2
      have HB := Lib.hid g4.bel
      clear g1 g2 g3 g4 g5 g6 g7 g8 e1 e2 hI hi1 hi2 hn1 hn2 hnw hns hb2 hb3 HA hlt hk
      go_wp2_with fail
      exact bodyPost_ret (v := .tuple #[imgV pW pS cW cS ⟨ml, mi, ms⟩, .int .i64 n]) (results_cell1 Tryz.results36 _ _ bx _ _ _ _ _ rfl rfl (set3 HBX.out _ _ _) Tryz.underlying25 rfl img_size) rfl ⟨pW, pS, ⟨cW, cS, rfl⟩, ((HI.out.set HNW.out HNS.out _).set HNW.out HNS.out _).set HNW.out HNS.out _, bel3 HB.out (by rw [HBXE.out]; exact Nat.le_refl _) _ _ _, HLO.out.1, HLO.out.2⟩
end Go.Proofs.YtbfmlbcjggplgaaGreatDoor
