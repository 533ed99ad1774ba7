/- SyntaxScans's walk. -/
import Derived.Test.YthlnjnmomnpnpaaGreatDoorYPg
import Derived.Test.YthlnjnmomnpnpaaGreatDoorYPh
import Derived.Test.YthlnjnmomnpnpaaGreatDoorYAwk
import Derived.Test.YthlnjnmomnpnpaaGreatDoorYPrint
import Derived.Test.YthlnjnmomnpnpaaGreatDoorYLenP
import Derived.Test.YthlnjnmomnpnpaaGreatDoorYBr
import Derived.Test.YthlnjnmomnpnpaaGreatDoorKScan
namespace Go.Proofs.YthlnjnmomnpnpaaGreatDoor
section
open Go.RowKit Tk Sy
set_option linter.unusedVariables false
theorem wfT_of {t : Tsk} (h : isTsk t = true) (hb : t.body.length ≤ 3) : WfT t := by
  unfold isTsk within at h
  simp only [Bool.and_eq_true, decide_eq_true_eq] at h
  obtain ⟨h1, ⟨h2, h3⟩, ⟨h4, h5⟩, ⟨h6, h7⟩, _⟩ := h
  have h8 : t.line ≤ 7 := by split at h7 <;> omega
  exact ⟨Nat.le_trans (name_size h1) (by unfold maxLen; decide), ⟨by omega, by omega⟩, ⟨by omega, by omega⟩, ⟨by omega, by omega⟩, Nat.le_trans hb (by decide)⟩
theorem TsksAt.of {w : World} {p : Option Addr} {l : List PT} (h : EncAt encT 6 w p l) (hl : ∀ y ∈ l, WfT y.t ∧ SAt w y.q y.t.body) : TsksAt w p (l.map PT.t) := fun j x hj => by
  rw [List.getElem?_map] at hj
  cases hy : l[j]? with
  | none => rw [hy] at hj; cases hj
  | some y =>
    rw [hy] at hj
    have hs : y.t = x := by simpa using hj
    subst hs
    obtain ⟨b, o, hp, hb, hc⟩ := h j y hy
    obtain ⟨h1, h2⟩ := hl y (List.mem_of_getElem? hy)
    exact ⟨h1, b, o, y.q, y.c, hp, hb, hc 0 _ rfl, hc 1 _ rfl, hc 2 _ rfl, hc 3 _ rfl, hc 4 _ rfl, hc 5 _ rfl, h2⟩
theorem ProgAt.prg {w W : World} {p : Prg} {q1 q2 q3 : Option Addr} {c3 : Nat} (h : ProgAt w W p q1 q2 q3 c3) (hr : right p = true) : PrgAt W q1 q2 q3 p := by
  obtain ⟨B, l, hB, ht, hrow, hok, hd, hs⟩ := h.ex
  obtain ⟨q, c, hv, he, _⟩ := hrow.form tskTy.len
  have hq : q3 = q := by injection hv
  subst hq
  unfold right within at hr
  simp only [Bool.and_eq_true, decide_eq_true_eq] at hr
  obtain ⟨⟨h1, h2⟩, h3, _, h4, _, h5, _⟩ := hr
  refine ⟨hd.sub (maskP_sub _ W), hs.sub (maskP_sub _ W), ?_, ⟨by omega, by omega⟩, by omega, by omega, by omega⟩
  rw [ht]
  exact TsksAt.of he (fun y hy => ⟨wfT_of (hok y hy).wf (hok y hy).len, (hok y hy).body.sub (maskP_sub _ W)⟩)
end
open Go.RowKit Tk Sy
set_option linter.unusedVariables false
set_option linter.unusedSimpArgs false
theorem sprog_lit {raw : List Int} {all : Bool} {n : Nat} {P : Prg} (hP : progV raw all = P) (hn : raw.length = n) (w : World) {p : Option Addr} {cp : Nat} (hr : RawAt w p raw) (hcp : n ≤ cp) (hn63 : n ≤ 9223372036854775807) :
    Calls Tryz.prog 7 #[.slice p n cp, .bool all] w fun e w' => ∃ q1 c1 q2 c2 q3 c3, e = .returned (prgV q1 c1 q2 c2 q3 c3 P) ∧ ProgAt w w' P q1 q2 q3 c3 := by
  subst hP
  exact prog_any hn w hr hcp hn63
theorem scan_yes {T : ByteArray} {L : List Tok} {nL : Nat} (h : scan T.data.toList 1 = .ok L) (hn : L.length = nL) (hs : T.size ≤ 20000) (w : World) (hT : Lx.SignsAt w) :
    Calls Tryz.prog 20 #[.string T] w fun e w' => ∃ B c, e = .returned (.tuple #[.slice (some ⟨B, 0, none⟩) nL c, .int .i64 0, .int .i64 0]) ∧ Bel w w' ∧ Lx.ToksAt w' B 0 L := by
  subst hn
  have hk := Lx.scan_any T hs w hT
  rw [h] at hk
  exact hk.mono (fun e w' hh => by
    obtain ⟨hb, B, c, he, _, _, ht, _⟩ := hh
    exact ⟨B, c, he, hb, ht⟩)
theorem scanF_len : ∀ (f : Nat) (s : Bs) (n : Nat) (l : List Tok), scanF f s n = .ok l → l.length ≤ s.length + 1 := by
  have cons_ok : ∀ {r : Res} {x : Tok} {l : List Tok}, r.cons x = .ok l → ∃ m, r = .ok m ∧ l = x :: m := by
    intro r x l h
    cases r with
    | ok m => exact ⟨m, rfl, by injection h with h; exact h.symm⟩
    | err k => cases h
  intro f
  induction f with
  | zero => intro s n l h; cases h
  | succ f ih =>
    intro s n l h
    cases s with
    | nil =>
      rw [scanF] at h
      injection h with h
      subst h
      exact Nat.le_refl _
    | cons c t =>
      rw [scanF] at h
      split at h
      · have := ih _ _ _ h
        rw [List.length_drop] at this
        omega
      · split at h
        · rename_i hr
          split at h
          · obtain ⟨m, hm, rfl⟩ := cons_ok h
            have := ih _ _ _ hm
            rw [List.length_drop, List.length_cons] at this
            simp only [List.length_cons]
            omega
          · cases h
        · split at h
          · rename_i g hg
            obtain ⟨m, hm, rfl⟩ := cons_ok h
            have := ih _ _ _ hm
            have hp := sign_pos hg
            rw [List.length_drop, List.length_cons] at this
            simp only [List.length_cons]
            omega
          · cases h
theorem okB_take : ∀ (l : List Bs) (d : Int) (i : Nat), okB d l → i ≤ l.length → 0 ≤ d → 0 ≤ d + sumB (l.take i)
  | [], d, i, _, hi, hd => by rw [List.take_nil]; show 0 ≤ d + 0; omega
  | t :: l, d, 0, _, _, hd => by show 0 ≤ d + 0; omega
  | t :: l, d, i + 1, h, hi, hd => by
    have h2 := okB_take l (d + br t) i h.2 (Nat.le_of_succ_le_succ hi) h.1
    show 0 ≤ d + (br t + sumB (l.take i))
    omega
theorem sumB_take {l : List Bs} {i : Nat} {t : Bs} (h : l[i]? = some t) : sumB (l.take (i + 1)) = sumB (l.take i) + br t := by
  rw [List.take_add_one, h, sumB_app]
  show _ + (br t + 0) = _
  omega
theorem br_le (t : Bs) : br t ≤ 1 := by
  unfold br
  split
  · decide
  · split <;> decide
set_option maxRecDepth 100000 in
set_option maxHeartbeats 8000000 in
theorem scans_walk {raw : List Int} {all : Bool} {n : Nat} (w : World) {p : Option Addr} {c : Nat} (hn : raw.length = n) (hr : RawAt w p raw) (hc : n ≤ c) (h6 : n ≤ 9223372036854775807) (hX : Texts w) (hPw : PowAt w) (hSg : Lx.SignsAt w) :
    Calls Tryz.prog 4 #[.slice p n c, .bool all] w fun e w' => e = .returned (.bool true) ∧ Bel w w' := by
  obtain ⟨P, hP⟩ : ∃ P, progV raw all = P := ⟨_, rfl⟩
  have hrp : right P = true := by rw [← hP]; exact prog_right _ _
  have hlen : (prgT P).length ≤ 10000000000 := by rw [← hP]; exact prog_len _ _
  obtain ⟨T, hT⟩ : ∃ T, str (prgT P) = T := ⟨_, rfl⟩
  obtain ⟨L, hL⟩ : ∃ L, toksL 1 (prgP P) ++ [(⟨5, [], 0, ((1 + (prgP P).length : Nat) : Int)⟩ : Tok)] = L := ⟨_, rfl⟩
  have hsc : scan T.data.toList 1 = .ok L := by rw [← hT, str_list, ← hL]; exact prg_scan hrp 1
  have hbal : Bal (L.map Tok.text) := by rw [← hL]; exact toks_bal hrp 1 _
  have hend : ∃ (a : List Tok) (z : Tok), L = a ++ [z] ∧ z.kind = 5 := ⟨_, _, hL.symm, rfl⟩
  have hll : L.length ≤ 10000000001 := by
    have h := scanF_len _ _ _ _ hsc
    rw [← hT, str_list] at h
    omega
  obtain ⟨nL, hnL⟩ : ∃ k, L.length = k := ⟨_, rfl⟩
  rw [hnL] at hll
  have HP := Lib.hid hP
  have HRP := Lib.hid hrp
  have HN := Lib.hid hn
  have H1 := Lib.hid hr
  have HC := Lib.hid (And.intro hc h6)
  have HX := Lib.hid hX
  have HPW := Lib.hid hPw
  have HSG := Lib.hid hSg
  have HLEN := Lib.hid hlen
  have HT := Lib.hid hT
  have HSC := Lib.hid hsc
  have HBL := Lib.hid hbal
  have HEN := Lib.hid hend
  have HNL := Lib.hid hnL
  clear hP hrp hn hr hc h6 hX hPw hSg hlen hT hL hsc hbal hend hnL
  go_enter Tryz.func4, Tryz.ntmps4
  go_wp2_with fail
  refine (awake_any _ HX.out HPW.out).mono ?_
  rintro e w1 ⟨rfl, hb⟩
  have HB := Lib.hid hb
  clear hb
  go_wp2_with fail
  refine (sprog_lit HP.out HN.out w1 (H1.out.bel HB.out) HC.out.1 HC.out.2).mono ?_
  rintro e w2 ⟨a1, b1, a2, b2, a3, b3, rfl, hp⟩
  have HA := Lib.hid (hp.prg HRP.out)
  have HB := Lib.hid (HB.out.trans hp.bel)
  clear hp
  go_wp2_with fail
  refine (Print_yes (q1 := a1) (c1 := b1) (q2 := a2) (c2 := b2) (q3 := a3) (c3 := b3) HT.out HRP.out _ HA.out (HX.out.bel HB.out) (HPW.out.bel HB.out) (Nat.le_trans HLEN.out (by decide))).mono ?_
  rintro e w7 ⟨rfl, hb⟩
  have HB := Lib.hid (HB.out.trans hb)
  clear hb HA
  have hm10 : T.size ≤ 10000000000 := by rw [← HT.out, str_size]; exact HLEN.out
  by_cases h2 : 20000 < T.size
  · have h3 : (20000 : Int) < (T.size : Int) := by omega
    go_wp2_with fail
    go_ret
    exact ⟨rfl, HB.out⟩
  · have h3 : ((20000 : Int) < (T.size : Int)) = False := eq_false (by omega)
    have hs2 : T.size ≤ 20000 := by omega
    go_wp2_with fail
    refine (scan_yes HSC.out HNL.out hs2 _ (HSG.out.bel HB.out)).mono ?_
    rintro e w8 ⟨B, cB, rfl, hb, ht⟩
    have HB := Lib.hid (HB.out.trans hb)
    have HTK := Lib.hid ht
    clear hb ht h3 h2 hs2 hm10
    go_wp2_with fail
    obtain ⟨W, hW⟩ : ∃ W, W = w8 := ⟨_, rfl⟩
    subst hW
    go_loopg [11, 12] nL (fun gk aa ii wx => ∃ i : Nat, ∃ d : Int, i + gk = nL ∧ aa = .int .i64 d ∧ ii = .int .i64 i ∧ 0 ≤ d ∧ d ≤ i ∧ Hid (d = sumB ((L.map Tok.text).take i)) ∧ W = wx)
    case atStart => exact ⟨0, 0, by omega, rfl, rfl, by omega, by omega, Lib.hid rfl, rfl⟩
    case round =>
      obtain ⟨i, d, hig, rfl, rfl, hd0, hdi, HD, rfl⟩ := hrel
      by_cases hlt : i < nL
      · have hk1 : (i : Int) < nL := by omega
        obtain ⟨x, hx⟩ : ∃ x, L[i]? = some x := ⟨_, List.getElem?_eq_getElem (by rw [HNL.out]; exact hlt)⟩
        obtain ⟨t, ht⟩ : ∃ t, x.text = t := ⟨_, rfl⟩
        obtain ⟨s, hs⟩ : ∃ s, str t = s := ⟨_, rfl⟩
        have k1 : W.cell? ⟨B, i * 4 + 1, none⟩ = some (.string s) := by
          have h := HTK.out.2 i x hx 1 (.string (str x.text)) rfl
          rw [ht, hs] at h
          simpa using h
        have htx : (L.map Tok.text)[i]? = some t := by rw [List.getElem?_map, hx]; exact congrArg some ht
        have hst := sumB_take htx
        have hnn : 0 ≤ 0 + sumB ((L.map Tok.text).take (i + 1)) := okB_take _ 0 _ (HBL.out.ok 0 (by omega)) (by rw [List.length_map, HNL.out]; omega) (by omega)
        have hbl := br_le t
        have HD2 : Hid (d + br t = sumB ((L.map Tok.text).take (i + 1))) := Lib.hid (by rw [hst, HD.out])
        have hnn2 : 0 ≤ d + br t := by rw [HD2.out]; omega
        have hsl : s.toList = t := by rw [ByteArray.toList_eq, ← hs, str_list]
        have hsw : ∀ u : Bs, (s.toList == u) = decide (t = u) := fun u => by rw [hsl]; by_cases e : t = u <;> simp [e]
        clear hst hnn htx hx ht hs hsl
        by_cases t1 : t = [123] ∨ t = [40] ∨ t = [91]
        · have hbr : br t = 1 := by unfold br; rw [if_pos t1]
          rw [hbr] at hnn2 HD2
          have hw1 : IntKind.i64.wrap (d + 1) = d + 1 := IntWalk.i64_in _ (by constructor <;> omega)
          have hlz : (d + 1 < 0) = False := eq_false (by omega)
          have s1 := hsw [123]
          have s2 := hsw [40]
          have s3 := hsw [91]
          clear hsw hbr hbl
          rcases t1 with rfl | rfl | rfl
          all_goals
            simp only [decide_true, decide_false, List.cons.injEq, and_true, reduceCtorEq] at s1 s2 s3
            go_wp2_with fail
            go_roundg (gk - 1)
            case measure => omega
            case rel => exact ⟨i + 1, d + 1, by omega, by go_num, by go_num, by omega, by omega, HD2, rfl⟩
        · by_cases t2 : t = [125] ∨ t = [41] ∨ t = [93]
          · have hbr : br t = -1 := by unfold br; rw [if_neg t1, if_pos t2]
            rw [hbr] at hnn2 HD2
            have hw1 : IntKind.i64.wrap (d - 1) = d - 1 := IntWalk.i64_in _ (by constructor <;> omega)
            have hlz : (d - 1 < 0) = False := eq_false (by omega)
            have s1 := hsw [123]
            have s2 := hsw [40]
            have s3 := hsw [91]
            have s4 := hsw [125]
            have s5 := hsw [41]
            have s6 := hsw [93]
            clear hsw hbr hbl t1
            have HD3 : Hid (d - 1 = sumB ((L.map Tok.text).take (i + 1))) := Lib.hid (by rw [← HD2.out]; omega)
            rcases t2 with rfl | rfl | rfl
            all_goals
              simp only [decide_true, decide_false, List.cons.injEq, and_true, reduceCtorEq] at s1 s2 s3 s4 s5 s6
              go_wp2_with fail
              go_roundg (gk - 1)
              case measure => omega
              case rel => exact ⟨i + 1, d - 1, by omega, by go_num, by go_num, by omega, by omega, HD3, rfl⟩
          · have hbr : br t = 0 := by unfold br; rw [if_neg t1, if_neg t2]
            rw [hbr, Int.add_zero] at HD2
            have hlz : (d < 0) = False := eq_false (by omega)
            have s1 : (s.toList == [123]) = false := by rw [hsw]; exact decide_eq_false (fun e => t1 (.inl e))
            have s2 : (s.toList == [40]) = false := by rw [hsw]; exact decide_eq_false (fun e => t1 (.inr (.inl e)))
            have s3 : (s.toList == [91]) = false := by rw [hsw]; exact decide_eq_false (fun e => t1 (.inr (.inr e)))
            have s4 : (s.toList == [125]) = false := by rw [hsw]; exact decide_eq_false (fun e => t2 (.inl e))
            have s5 : (s.toList == [41]) = false := by rw [hsw]; exact decide_eq_false (fun e => t2 (.inr (.inl e)))
            have s6 : (s.toList == [93]) = false := by rw [hsw]; exact decide_eq_false (fun e => t2 (.inr (.inr e)))
            clear hsw hbr hbl t1 t2 hnn2
            go_wp2_with fail
            go_roundg (gk - 1)
            case measure => omega
            case rel => exact ⟨i + 1, d, by omega, rfl, by go_num, by omega, by omega, HD2, rfl⟩
      · obtain rfl : nL = i := by omega
        have hdz : d = 0 := by
          rw [HD.out, List.take_of_length_le (by rw [List.length_map]; exact Nat.le_of_eq HNL.out)]
          exact HBL.out.sum
        obtain ⟨a, z, hz, hzk⟩ := HEN.out
        have hla : nL = a.length + 1 := by rw [← HNL.out, hz, List.length_append, List.length_singleton]
        have hlz : L[a.length]? = some z := by rw [hz, List.getElem?_append_right (Nat.le_refl _), Nat.sub_self]; rfl
        have kz : W.cell? ⟨B, (nL - 1) * 4, none⟩ = some (.int .i64 5) := by
          have h := HTK.out.2 a.length z hlz 0 (.int .i64 z.kind) rfl
          rw [hzk] at h
          rw [hla]
          simpa using h
        have hp2 : (0 : Int) < (nL : Int) := by omega
        have v1 : IntKind.i64.wrap ((nL : Int) - 1) = (nL : Int) - 1 := IntWalk.i64_in _ (by constructor <;> omega)
        have v2 : ((nL : Int) - 1).toNat = nL - 1 := by omega
        have v3 : (0 : Int) ≤ (nL : Int) - 1 := by omega
        have v4 : (nL : Int) - 1 < (nL : Int) := by omega
        subst hdz
        clear hz hzk hla hlz hig hlt hdi hd0
        go_wp2_with fail
        go_ret
        exact ⟨rfl, HB.out⟩
end Go.Proofs.YthlnjnmomnpnpaaGreatDoor
