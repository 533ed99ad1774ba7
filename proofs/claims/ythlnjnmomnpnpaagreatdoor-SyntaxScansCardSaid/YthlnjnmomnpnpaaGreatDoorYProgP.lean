/- The law's programs of raw numbers, plain: what they are, and that they may be. -/
import Derived.Test.YthlnjnmomnpnpaaGreatDoorTPick
import Derived.Test.YthlnjnmomnpnpaaGreatDoorYExprs
import Derived.Test.YthlnjnmomnpnpaaGreatDoorYStmts
namespace Go.Proofs.YthlnjnmomnpnpaaGreatDoor
open Tk
namespace Sy
set_option linter.unusedVariables false
/-- one below n, and what is left of the raw numbers -/
def nx (s : List Int) (n : Int) : Int × List Int := match s with
  | [] => (0, [])
  | x :: t => (pick x n, t)
theorem nx_bd (s : List Int) {n : Int} (h : 0 < n) : 0 ≤ (nx s n).1 ∧ (nx s n).1 < n := by
  cases s with
  | nil => exact ⟨Int.le_refl _, h⟩
  | cons x t => exact pick_bd x h
theorem nx_cases {s : List Int} {n : Int} (h : 0 < n) : ∃ k : Nat, (nx s n).1 = (k : Int) ∧ (k : Int) < n := by
  obtain ⟨h1, h2⟩ := nx_bd s h
  obtain ⟨k, hk⟩ := Int.eq_ofNat_of_zero_le h1
  exact ⟨k, hk, by omega⟩
/-- what may be named -/
structure Sco where
  devs : List ByteArray
  rscs : List ByteArray
  free : Nat
  held : List ByteArray
  any : Bool
def xyz : List ByteArray := [⟨#[120]⟩, ⟨#[121]⟩, ⟨#[122]⟩]
def varT (n : Int) : ByteArray := str (varV n)
def nameV (c : Sco) (l : List ByteArray) (s : List Int) : ByteArray × List Int :=
  if c.any = true ∨ l = [] then (varT (nx s 300).1, (nx s 300).2)
  else (l.getD (nx s (l.length : Int)).1.toNat ⟨#[]⟩, (nx s (l.length : Int)).2)
def numVal (s : List Int) : Int := if (nx (nx (nx (nx s 10).2 300).2 4294967296).2 3).1 = 0 then (nx s 10).1 else if (nx (nx (nx (nx s 10).2 300).2 4294967296).2 3).1 = 1 then (nx (nx s 10).2 300).1 else (nx (nx (nx s 10).2 300).2 4294967296).1
def numE (s : List Int) : Ex × List Int := (.mk 1 0 (numVal s) ⟨#[]⟩ [], (nx (nx (nx (nx s 10).2 300).2 4294967296).2 3).2)
def exprV (c : Sco) : Nat → List Int → Ex × List Int
  | 0, s => numE (nx s 8).2
  | d + 1, s =>
    if (nx s 8).1 < 2 then numE (nx s 8).2
    else if (nx s 8).1 < 4 then (.mk 2 0 0 (nameV c xyz (nx s 8).2).1 [], (nameV c xyz (nx s 8).2).2)
    else if (nx s 8).1 = 4 then
      let o := nx (nx s 8).2 3
      let x := exprV c d o.2
      (.mk 3 (15 + o.1) 0 ⟨#[]⟩ [x.1], x.2)
    else if (nx s 8).1 = 5 ∧ (c.any = true ∨ c.held ≠ []) then
      let n := nameV c c.held (nx s 8).2
      let x := exprV c d n.2
      (.mk 5 0 0 n.1 [x.1], x.2)
    else
      let o := nx (nx s 8).2 14
      let x := exprV c d o.2
      let y := exprV c d x.2
      (.mk 4 (1 + o.1) 0 ⟨#[]⟩ [x.1, y.1], y.2)
theorem exprV_succ (c : Sco) (d : Nat) (s : List Int) : exprV c (d + 1) s = (if (nx s 8).1 < 2 then numE (nx s 8).2
      else if (nx s 8).1 < 4 then (Ex.mk 2 0 0 (nameV c xyz (nx s 8).2).1 [], (nameV c xyz (nx s 8).2).2)
      else if (nx s 8).1 = 4 then (Ex.mk 3 (15 + (nx (nx s 8).2 3).1) 0 ⟨#[]⟩ [(exprV c d (nx (nx s 8).2 3).2).1], (exprV c d (nx (nx s 8).2 3).2).2)
      else if (nx s 8).1 = 5 ∧ (c.any = true ∨ c.held ≠ []) then (Ex.mk 5 0 0 (nameV c c.held (nx s 8).2).1 [(exprV c d (nameV c c.held (nx s 8).2).2).1], (exprV c d (nameV c c.held (nx s 8).2).2).2)
      else (Ex.mk 4 (1 + (nx (nx s 8).2 14).1) 0 ⟨#[]⟩ [(exprV c d (nx (nx s 8).2 14).2).1, (exprV c d (exprV c d (nx (nx s 8).2 14).2).2).1], (exprV c d (exprV c d (nx (nx s 8).2 14).2).2).2)) := rfl
def stmtsV (f : List Int → St × List Int) : Nat → List Int → List St × List Int
  | 0, s => ([], s)
  | n + 1, s => ((f s).1 :: (stmtsV f n (f s).2).1, (stmtsV f n (f s).2).2)
def blkV (f : List Int → St × List Int) (s : List Int) : List St × List Int := stmtsV f (nx s 4).1.toNat (nx s 4).2
/-- where any may be named, or all that is left -/
def lockC (c : Sco) (s : List Int) : ByteArray × Sco × List Int :=
  if c.any = true then ((nameV c c.rscs s).1, { c with held := c.held ++ [(nameV c c.rscs s).1] }, (nameV c c.rscs s).2)
  else
    let r := nameV c c.rscs s
    let i := nx r.2 ((c.rscs.length : Int) - (c.free : Int))
    let j := c.free + i.1.toNat
    (c.rscs.getD j ⟨#[]⟩, { c with free := j + 1, held := c.held ++ [c.rscs.getD j ⟨#[]⟩] }, i.2)
def stG (blk : Sco → List Int → List St × List Int) (deep : Bool) (c : Sco) (s : List Int) : St × List Int :=
  let l := nameV c xyz s
  let k := nx l.2 12
  if k.1 < 2 then
    let f := nameV c c.devs k.2
    let n := nx f.2 4
    (.mk 2 l.1 f.1 n.1 [] [] [], n.2)
  else if k.1 < 5 then
    let f := nameV c c.devs k.2
    let n := nx f.2 4
    let x := exprV c 3 n.2
    (.mk 3 f.1 ⟨#[]⟩ n.1 [x.1] [] [], x.2)
  else if k.1 < 7 ∧ (c.any = true ∨ c.held ≠ []) then
    let f := nameV c c.held k.2
    let x := exprV c 2 f.2
    let y := exprV c 3 x.2
    (.mk 4 f.1 ⟨#[]⟩ 0 [x.1, y.1] [] [], y.2)
  else if k.1 < 9 ∧ deep = true ∧ (c.any = true ∨ c.free < c.rscs.length) then
    let r := lockC c k.2
    let t := blk r.2.1 r.2.2
    (.mk 5 r.1 ⟨#[]⟩ 0 [] t.1 [], t.2)
  else if k.1 = 9 ∧ deep = true then
    let x := exprV c 3 k.2
    let t := blk c x.2
    let e := blk c t.2
    (.mk 6 ⟨#[]⟩ ⟨#[]⟩ 0 [x.1] t.1 e.1, e.2)
  else if k.1 = 10 ∧ deep = true then
    let n := nx k.2 5
    let t := blk c n.2
    (.mk 7 ⟨#[]⟩ ⟨#[]⟩ n.1 [] t.1 [], t.2)
  else if k.1 = 11 then (.mk 8 ⟨#[]⟩ ⟨#[]⟩ 0 [] [] [], k.2)
  else
    let x := exprV c 4 k.2
    (.mk 1 l.1 ⟨#[]⟩ 0 [x.1] [] [], x.2)
def stV : Nat → Sco → List Int → St × List Int
  | 0 => stG (fun _ s => ([], s)) false
  | d + 1 => stG (fun c s => blkV (stV d c) s) true
/-- as deep as that -/
def bodyV (d : Nat) (c : Sco) (s : List Int) : List St × List Int := blkV (stV d c) s
/-- names that are names -/
def Nms (l : List ByteArray) : Prop := ∀ n ∈ l, isName n.data.toList = true
structure GoodC (c : Sco) : Prop where
  devs : Nms c.devs
  rscs : Nms c.rscs
  held : Nms c.held
theorem varV_name (n : Int) : isName (varV n) = true := by
  obtain ⟨k, hk, e⟩ : ∃ k, k < 300 ∧ varV n = if k < 10 then names.getD (k % 10) [] else names.getD (k % 10) [] ++ dec k := ⟨_, pick_nat n (n := 300) (by omega), rfl⟩
  rw [e]
  have hm : names.getD (k % 10) [] ∈ names := getD_mem (by show k % 10 < 10; omega)
  by_cases h : k < 10
  · rw [if_pos h]
    exact name_self hm
  · rw [if_neg h]
    exact (name_app hm k hk).2
theorem varT_name (n : Int) : isName (varT n).data.toList = true := by
  unfold varT
  rw [str_list]
  exact varV_name n
theorem getD_memB {l : List ByteArray} {k : Nat} (h : k < l.length) : l.getD k ⟨#[]⟩ ∈ l := by
  rw [List.getD_eq_getElem?_getD, List.getElem?_eq_getElem h]
  exact List.getElem_mem h
theorem nx_lt (s : List Int) {n : Nat} (h : 0 < n) : (nx s (n : Int)).1.toNat < n := by
  have := nx_bd s (n := (n : Int)) (by omega)
  omega
theorem name_ok {c : Sco} {l : List ByteArray} (hl : Nms l) (s : List Int) : isName (nameV c l s).1.data.toList = true := by
  unfold nameV
  split
  · exact varT_name _
  · rename_i h
    refine hl _ (getD_memB (nx_lt s ?_))
    cases l with
    | nil => exact absurd (Or.inr rfl) h
    | cons a t => exact Nat.succ_pos _
theorem xyz_ok : Nms xyz := by
  intro n hn
  have : n = ⟨#[120]⟩ ∨ n = ⟨#[121]⟩ ∨ n = ⟨#[122]⟩ := by simpa [xyz] using hn
  rcases this with rfl | rfl | rfl <;> decide +kernel
theorem name_size {n : ByteArray} (h : isName n.data.toList = true) : n.size ≤ 20 := by
  unfold isName at h
  simp only [Bool.and_eq_true, decide_eq_true_eq] at h
  have := h.1.1.1
  rw [size_list] at this
  omega
theorem numVal_bd (s : List Int) : 0 ≤ numVal s ∧ numVal s ≤ 4294967295 := by
  have h1 := nx_bd s (n := 10) (by omega)
  have h2 := nx_bd (nx s 10).2 (n := 300) (by omega)
  have h3 := nx_bd (nx (nx s 10).2 300).2 (n := 4294967296) (by omega)
  unfold numVal
  split
  · omega
  · split <;> omega
theorem fits_num {n : Int} (h0 : 0 ≤ n) (h1 : n ≤ 4294967295) : fitsE (eShp 1) (.mk 1 0 n ⟨#[]⟩ []) = true := by
  have h : fitsE (eShp 1) (.mk 1 0 n ⟨#[]⟩ []) = (true && (true && ((decide ((0 : Int) ≤ n) && decide (n ≤ 4294967295)) && (true && true)))) := rfl
  rw [h, decide_eq_true h0, decide_eq_true h1]
  rfl
theorem fits_var {n : ByteArray} (h : isName n.data.toList = true) : fitsE (eShp 2) (.mk 2 0 0 n []) = true := by
  have e : fitsE (eShp 2) (.mk 2 0 0 n []) = (true && (true && (true && (isName n.data.toList && true)))) := rfl
  rw [e, h]
  rfl
theorem fits_at {n : ByteArray} {x : Ex} (h : isName n.data.toList = true) : fitsE (eShp 5) (.mk 5 0 0 n [x]) = true := by
  have e : fitsE (eShp 5) (.mk 5 0 0 n [x]) = (true && (true && (true && (isName n.data.toList && true)))) := rfl
  rw [e, h]
  rfl
theorem fits_one {o : Int} {x : Ex} (h0 : 0 ≤ o) (h1 : o < 3) : fitsE (eShp 3) (.mk 3 (15 + o) 0 ⟨#[]⟩ [x]) = true := by
  rcases (show o = 0 ∨ o = 1 ∨ o = 2 by omega) with rfl | rfl | rfl <;> rfl
theorem fits_two {o : Int} {x y : Ex} (h0 : 0 ≤ o) (h1 : o < 14) : fitsE (eShp 4) (.mk 4 (1 + o) 0 ⟨#[]⟩ [x, y]) = true := by
  rcases (show o = 0 ∨ o = 1 ∨ o = 2 ∨ o = 3 ∨ o = 4 ∨ o = 5 ∨ o = 6 ∨ o = 7 ∨ o = 8 ∨ o = 9 ∨ o = 10 ∨ o = 11 ∨ o = 12 ∨ o = 13 by omega) with rfl | rfl | rfl | rfl | rfl | rfl | rfl | rfl | rfl | rfl | rfl | rfl | rfl | rfl <;> rfl
theorem body_mono : ∀ (d : Nat) (e : Ex), bodyE d e = true → bodyE (d + 1) e = true := by
  intro d
  induction d with
  | zero => intro e h; cases h
  | succ d ih =>
    intro e h
    have h' : (fitsE (eShp e.kind) e && areE d e.args) = true := h
    rw [Bool.and_eq_true] at h'
    show (fitsE (eShp e.kind) e && areE (d + 1) e.args) = true
    rw [Bool.and_eq_true, areE_all, List.all_eq_true]
    refine ⟨h'.1, fun a ha => ih a ?_⟩
    have := h'.2
    rw [areE_all, List.all_eq_true] at this
    exact this a ha
theorem body_up {d k : Nat} (h : d ≤ k) {e : Ex} (he : bodyE d e = true) : bodyE k e = true := by
  induction h with
  | refl => exact he
  | step _ ih => exact body_mono _ _ ih
theorem numE_ok (d : Nat) (s : List Int) : bodyE (d + 1) (numE s).1 = true := by
  have h := numVal_bd s
  show (fitsE (eShp 1) (.mk 1 0 (numVal s) ⟨#[]⟩ []) && areE d []) = true
  rw [fits_num h.1 h.2, areE_all]
  rfl
theorem body_one {d : Nat} {k o : Int} {n : ByteArray} {x : Ex} (hf : fitsE (eShp k) (.mk k o 0 n [x]) = true) (hx : bodyE d x = true) : bodyE (d + 1) (.mk k o 0 n [x]) = true := by
  show (fitsE (eShp k) (.mk k o 0 n [x]) && areE d [x]) = true
  rw [hf, areE_all]
  simp [hx]
theorem body_two {d : Nat} {k o : Int} {n : ByteArray} {x y : Ex} (hf : fitsE (eShp k) (.mk k o 0 n [x, y]) = true) (hx : bodyE d x = true) (hy : bodyE d y = true) : bodyE (d + 1) (.mk k o 0 n [x, y]) = true := by
  show (fitsE (eShp k) (.mk k o 0 n [x, y]) && areE d [x, y]) = true
  rw [hf, areE_all]
  simp [hx, hy]
theorem expr_ok {c : Sco} (hc : GoodC c) : ∀ (d : Nat) (s : List Int), bodyE (d + 1) (exprV c d s).1 = true := by
  intro d
  induction d with
  | zero => intro s; exact numE_ok 0 _
  | succ d ih =>
    intro s
    unfold exprV
    split
    · exact numE_ok _ _
    · split
      · show (fitsE (eShp 2) _ && areE (d + 1) []) = true
        rw [fits_var (name_ok xyz_ok _), areE_all]
        rfl
      · split
        · have ho := nx_bd (nx s 8).2 (n := 3) (by omega)
          exact body_one (fits_one ho.1 ho.2) (ih _)
        · split
          · exact body_one (fits_at (name_ok hc.held _)) (ih _)
          · have ho := nx_bd (nx s 8).2 (n := 14) (by omega)
            exact body_two (fits_two ho.1 ho.2) (ih _) (ih _)
theorem expr_30 {c : Sco} (hc : GoodC c) {d : Nat} (hd : d ≤ 29) (s : List Int) : bodyE 30 (exprV c d s).1 = true := body_up (Nat.succ_le_succ hd) (expr_ok hc d s)
theorem lock_good {c : Sco} (hc : GoodC c) (s : List Int) (hl : c.any = true ∨ c.free < c.rscs.length) : isName (lockC c s).1.data.toList = true ∧ GoodC (lockC c s).2.1 := by
  unfold lockC
  by_cases h : c.any = true
  · rw [if_pos h]
    have hn := name_ok (c := c) hc.rscs s
    refine ⟨hn, hc.devs, hc.rscs, fun n hm => ?_⟩
    rcases List.mem_append.1 hm with hm | hm
    · exact hc.held n hm
    · rw [List.mem_singleton.1 hm]; exact hn
  · rw [if_neg h]
    have hf : c.free < c.rscs.length := hl.resolve_left h
    have hi := nx_bd (nameV c c.rscs s).2 (n := (c.rscs.length : Int) - (c.free : Int)) (by omega)
    have hj : c.free + (nx (nameV c c.rscs s).2 ((c.rscs.length : Int) - (c.free : Int))).1.toNat < c.rscs.length := by omega
    have hn : isName (c.rscs.getD (c.free + (nx (nameV c c.rscs s).2 ((c.rscs.length : Int) - (c.free : Int))).1.toNat) ⟨#[]⟩).data.toList = true := hc.rscs _ (getD_memB hj)
    refine ⟨hn, hc.devs, hc.rscs, fun n hm => ?_⟩
    rcases List.mem_append.1 hm with hm | hm
    · exact hc.held n hm
    · rw [List.mem_singleton.1 hm]; exact hn
theorem stmts_ok {f : List Int → St × List Int} {d : Nat} (hf : ∀ s, bodyS d (f s).1 = true) : ∀ (n : Nat) (s : List Int), areS d (stmtsV f n s).1 = true := by
  intro n
  induction n with
  | zero => intro s; rw [areS_all]; rfl
  | succ n ih =>
    intro s
    have h := ih (f s).2
    rw [areS_all] at h ⊢
    show ((bodyS d (f s).1) && (stmtsV f n (f s).2).1.all (bodyS d)) = true
    rw [hf, h]
    rfl
theorem blk_ok {f : List Int → St × List Int} {d : Nat} (hf : ∀ s, bodyS d (f s).1 = true) (s : List Int) : areS d (blkV f s).1 = true := stmts_ok hf _ _
theorem body_st {d : Nat} {k n : Int} {a b : ByteArray} {xs : List Ex} {t e : List St} (hf : fitsS (sShp k) (.mk k a b n xs t e) = true) (hx : areE 30 xs = true) (ht : areS d t = true) (he : areS d e = true) : bodyS (d + 1) (.mk k a b n xs t e) = true := by
  show (fitsS (sShp k) (.mk k a b n xs t e) && (areE 30 xs && (areS d t && areS d e))) = true
  rw [hf, hx, ht, he]
  rfl
theorem areS_nil (d : Nat) : areS d [] = true := by rw [areS_all]; rfl
theorem areE_nil (d : Nat) : areE d [] = true := by rw [areE_all]; rfl
theorem areE_single {d : Nat} {x : Ex} (h : bodyE d x = true) : areE d [x] = true := by rw [areE_all]; simp [h]
theorem areE_pair {d : Nat} {x y : Ex} (h : bodyE d x = true) (h2 : bodyE d y = true) : areE d [x, y] = true := by rw [areE_all]; simp [h, h2]
theorem sfit_set {n : ByteArray} {x : Ex} (h : isName n.data.toList = true) : fitsS (sShp 1) (.mk 1 n ⟨#[]⟩ 0 [x] [] []) = true := by
  have e : fitsS (sShp 1) (.mk 1 n ⟨#[]⟩ 0 [x] [] []) = (true && (isName n.data.toList && true)) := rfl
  rw [e, h]
  rfl
theorem sfit_get {n f : ByteArray} {k : Int} (h : isName n.data.toList = true) (h2 : isName f.data.toList = true) (h0 : 0 ≤ k) (h1 : k < 4) : fitsS (sShp 2) (.mk 2 n f k [] [] []) = true := by
  have e : fitsS (sShp 2) (.mk 2 n f k [] [] []) = (true && (isName n.data.toList && (isName f.data.toList && ((decide (0 ≤ k) && decide (k ≤ 3)) && true)))) := rfl
  rw [e, h, h2, decide_eq_true h0, decide_eq_true (show k ≤ 3 by omega)]
  rfl
theorem sfit_put {n : ByteArray} {k : Int} {x : Ex} (h : isName n.data.toList = true) (h0 : 0 ≤ k) (h1 : k < 4) : fitsS (sShp 3) (.mk 3 n ⟨#[]⟩ k [x] [] []) = true := by
  have e : fitsS (sShp 3) (.mk 3 n ⟨#[]⟩ k [x] [] []) = (true && (isName n.data.toList && (true && ((decide (0 ≤ k) && decide (k ≤ 3)) && true)))) := rfl
  rw [e, h, decide_eq_true h0, decide_eq_true (show k ≤ 3 by omega)]
  rfl
theorem sfit_store {n : ByteArray} {x y : Ex} (h : isName n.data.toList = true) : fitsS (sShp 4) (.mk 4 n ⟨#[]⟩ 0 [x, y] [] []) = true := by
  have e : fitsS (sShp 4) (.mk 4 n ⟨#[]⟩ 0 [x, y] [] []) = (true && (isName n.data.toList && true)) := rfl
  rw [e, h]
  rfl
theorem sfit_lock {n : ByteArray} {t : List St} (h : isName n.data.toList = true) : fitsS (sShp 5) (.mk 5 n ⟨#[]⟩ 0 [] t []) = true := by
  have e : fitsS (sShp 5) (.mk 5 n ⟨#[]⟩ 0 [] t []) = (true && (isName n.data.toList && true)) := rfl
  rw [e, h]
  rfl
theorem sfit_if {x : Ex} {t e : List St} : fitsS (sShp 6) (.mk 6 ⟨#[]⟩ ⟨#[]⟩ 0 [x] t e) = true := rfl
theorem sfit_rep {k : Int} {t : List St} (h0 : 0 ≤ k) (h1 : k ≤ 20) : fitsS (sShp 7) (.mk 7 ⟨#[]⟩ ⟨#[]⟩ k [] t []) = true := by
  have e : fitsS (sShp 7) (.mk 7 ⟨#[]⟩ ⟨#[]⟩ k [] t []) = (true && (true && (true && ((decide (0 ≤ k) && decide (k ≤ 20)) && true)))) := rfl
  rw [e, decide_eq_true h0, decide_eq_true h1]
  rfl
theorem sfit_halt : fitsS (sShp 8) (.mk 8 ⟨#[]⟩ ⟨#[]⟩ 0 [] [] []) = true := rfl
theorem stG_ok {blk : Sco → List Int → List St × List Int} {deep : Bool} {d : Nat} (hb : ∀ c s, GoodC c → areS d (blk c s).1 = true) {c : Sco} (hc : GoodC c) (s : List Int) : bodyS (d + 1) (stG blk deep c s).1 = true := by
  have hn := name_ok (c := c) xyz_ok s
  unfold stG
  dsimp only
  generalize nameV c xyz s = l at hn ⊢
  split
  · have hk := nx_bd (nameV c c.devs (nx l.2 12).2).2 (n := 4) (by omega)
    exact body_st (sfit_get hn (name_ok hc.devs _) hk.1 hk.2) (areE_nil _) (areS_nil _) (areS_nil _)
  · split
    · have hk := nx_bd (nameV c c.devs (nx l.2 12).2).2 (n := 4) (by omega)
      exact body_st (sfit_put (name_ok hc.devs _) hk.1 hk.2) (areE_single (expr_30 hc (by decide) _)) (areS_nil _) (areS_nil _)
    · split
      · exact body_st (sfit_store (name_ok hc.held _)) (areE_pair (expr_30 hc (by decide) _) (expr_30 hc (by decide) _)) (areS_nil _) (areS_nil _)
      · split
        · rename_i h
          have hL := lock_good hc (nx l.2 12).2 h.2.2
          exact body_st (sfit_lock hL.1) (areE_nil _) (hb _ _ hL.2) (areS_nil _)
        · split
          · exact body_st sfit_if (areE_single (expr_30 hc (by decide) _)) (hb _ _ hc) (hb _ _ hc)
          · split
            · have hk := nx_bd (nx l.2 12).2 (n := 5) (by omega)
              exact body_st (sfit_rep hk.1 (by omega)) (areE_nil _) (hb _ _ hc) (areS_nil _)
            · split
              · exact body_st sfit_halt (areE_nil _) (areS_nil _) (areS_nil _)
              · exact body_st (sfit_set hn) (areE_single (expr_30 hc (by decide) _)) (areS_nil _) (areS_nil _)
theorem st_ok : ∀ (d : Nat) (c : Sco) (s : List Int), GoodC c → bodyS (d + 1) (stV d c s).1 = true := by
  intro d
  induction d with
  | zero => intro c s hc; exact stG_ok (fun c s _ => areS_nil _) hc s
  | succ d ih => intro c s hc; exact stG_ok (fun c s hc => blk_ok (fun s => ih c s hc) s) hc s
theorem bodyS_mono : ∀ (d : Nat) (s : St), bodyS d s = true → bodyS (d + 1) s = true := by
  intro d
  induction d with
  | zero => intro s h; cases h
  | succ d ih =>
    intro s h
    have h' : (fitsS (sShp s.kind) s && (areE 30 s.args && (areS d s.thn && areS d s.els))) = true := h
    show (fitsS (sShp s.kind) s && (areE 30 s.args && (areS (d + 1) s.thn && areS (d + 1) s.els))) = true
    simp only [areS_all, Bool.and_eq_true, List.all_eq_true] at h' ⊢
    exact ⟨h'.1, h'.2.1, fun a ha => ih a (h'.2.2.1 a ha), fun a ha => ih a (h'.2.2.2 a ha)⟩
theorem areS_up {d k : Nat} (h : d ≤ k) {l : List St} (hl : areS d l = true) : areS k l = true := by
  induction h with
  | refl => exact hl
  | step _ ih =>
    rw [areS_all, List.all_eq_true] at ih ⊢
    exact fun a ha => bodyS_mono _ _ (ih a ha)
theorem body_ok {d : Nat} (hd : d ≤ 29) {c : Sco} (hc : GoodC c) (s : List Int) : areS 30 (bodyV d c s).1 = true := areS_up (Nat.succ_le_succ hd) (blk_ok (fun s => st_ok d c s hc) s)
/-- a program -/
def dnames : List ByteArray := [⟨#[100]⟩, ⟨#[101]⟩, ⟨#[102]⟩]
def rnames : List ByteArray := [⟨#[114, 97]⟩, ⟨#[114, 98]⟩]
def tnames : List ByteArray := [⟨#[116, 97]⟩, ⟨#[116, 98]⟩, ⟨#[116, 99]⟩]
def hnames : List ByteArray := [⟨#[104, 97]⟩, ⟨#[104, 98]⟩, ⟨#[104, 99]⟩]
def devsV : Nat → List Dev → List Int → List Dev × List Int
  | 0, l, s => (l, s)
  | n + 1, l, s => devsV n (l ++ [⟨dnames.getD l.length ⟨#[]⟩, 1 + (nx s 3).1⟩]) (nx s 3).2
def rscsV : Nat → List Rsc → List Int → List Rsc × List Int
  | 0, l, s => (l, s)
  | n + 1, l, s => rscsV n (l ++ [⟨rnames.getD l.length ⟨#[]⟩, 1 + (nx s 8).1⟩]) (nx s 8).2
def tskV0 (c : Sco) (h : Nat) (s : List Int) : Tsk × List Int := (⟨tnames.getD h ⟨#[]⟩, false, h, 1 + (nx s 3).1, 0, (bodyV 3 c (nx s 3).2).1⟩, (bodyV 3 c (nx s 3).2).2)
def tsksV (c : Sco) : Nat → List Tsk → List Int → List Tsk × List Int
  | 0, l, s => (l, s)
  | n + 1, l, s => tsksV c n (l ++ [(tskV0 c l.length s).1]) (tskV0 c l.length s).2
def hdlV (c : Sco) (harts : Nat) (k : Nat) (s : List Int) : Tsk × List Int :=
  let a := nx s harts
  let b := nx a.2 4
  let d := nx b.2 2
  (⟨hnames.getD k ⟨#[]⟩, true, a.1, 4 + b.1, k + d.1 * 4, (bodyV 2 c d.2).1⟩, (bodyV 2 c d.2).2)
def hdlsV (c : Sco) (harts : Nat) : Nat → List Tsk → List Int → List Tsk × List Int
  | 0, l, s => (l, s)
  | n + 1, l, s => hdlsV c harts n (l ++ [(hdlV c harts (l.length - harts) s).1]) (hdlV c harts (l.length - harts) s).2
def harts (s : List Int) : Nat := 1 + (nx s 3).1.toNat
def dev2 (s : List Int) : List Dev × List Int := devsV (1 + (nx (nx s 3).2 3).1.toNat) [] (nx (nx s 3).2 3).2
def rsc2 (s : List Int) : List Rsc × List Int := rscsV (nx (dev2 s).2 3).1.toNat [] (nx (dev2 s).2 3).2
def scoV (s : List Int) (all : Bool) : Sco := ⟨(dev2 s).1.map Dev.name, (rsc2 s).1.map Rsc.name, 0, [], all⟩
def tsk2 (s : List Int) (all : Bool) : List Tsk × List Int := tsksV (scoV s all) (harts s) [] (rsc2 s).2
def all2 (s : List Int) (all : Bool) : List Tsk × List Int := hdlsV (scoV s all) (harts s) (nx (tsk2 s all).2 4).1.toNat (tsk2 s all).1 (nx (tsk2 s all).2 4).2
def progS (s : List Int) (all : Bool) : Prg := ⟨harts s, (dev2 s).1, (rsc2 s).1, (all2 s all).1⟩
/-- the law's program of raw numbers -/
def progV (raw : List Int) (all : Bool) : Prg := progS (raw.take 400) all
def DevOk (l : List Dev) : Prop := l.all isDev = true ∧ Nms (l.map Dev.name)
theorem dnames_ok : ∀ j, j < 3 → isName (dnames.getD j ⟨#[]⟩).data.toList = true := by
  intro j hj
  rcases (show j = 0 ∨ j = 1 ∨ j = 2 by omega) with rfl | rfl | rfl <;> decide +kernel
theorem rnames_ok : ∀ j, j < 2 → isName (rnames.getD j ⟨#[]⟩).data.toList = true := by
  intro j hj
  rcases (show j = 0 ∨ j = 1 by omega) with rfl | rfl <;> decide +kernel
theorem tnames_ok : ∀ j, j < 3 → isName (tnames.getD j ⟨#[]⟩).data.toList = true := by
  intro j hj
  rcases (show j = 0 ∨ j = 1 ∨ j = 2 by omega) with rfl | rfl | rfl <;> decide +kernel
theorem hnames_ok : ∀ j, j < 3 → isName (hnames.getD j ⟨#[]⟩).data.toList = true := by
  intro j hj
  rcases (show j = 0 ∨ j = 1 ∨ j = 2 by omega) with rfl | rfl | rfl <;> decide +kernel
theorem isDev_of {n : ByteArray} {k : Int} (h : isName n.data.toList = true) (h0 : 1 ≤ k) (h1 : k ≤ 3) : isDev ⟨n, k⟩ = true := by
  have e : isDev ⟨n, k⟩ = (isName n.data.toList && !(kindT k).isEmpty) := rfl
  rw [e, h]
  rcases (show k = 1 ∨ k = 2 ∨ k = 3 by omega) with rfl | rfl | rfl <;> rfl
theorem devs_ok : ∀ (n : Nat) (l : List Dev) (s : List Int), n + l.length ≤ 3 → (∀ x ∈ l, isDev x = true) → (∀ x ∈ (devsV n l s).1, isDev x = true) ∧ (devsV n l s).1.length = n + l.length := by
  intro n
  induction n with
  | zero => intro l s _ hl; exact ⟨hl, (Nat.zero_add _).symm⟩
  | succ n ih =>
    intro l s hn hl
    have hk := nx_bd s (n := 3) (by omega)
    have h := ih (l ++ [⟨dnames.getD l.length ⟨#[]⟩, 1 + (nx s 3).1⟩]) (nx s 3).2 (by rw [List.length_append, List.length_singleton]; omega) (fun x hx => by
      rcases List.mem_append.1 hx with hx | hx
      · exact hl x hx
      · rw [List.mem_singleton.1 hx]
        exact isDev_of (dnames_ok _ (by omega)) (by omega) (by omega))
    refine ⟨h.1, ?_⟩
    have h2 := h.2
    rw [List.length_append, List.length_singleton] at h2
    show (devsV n _ _).1.length = _
    omega
theorem rscs_ok : ∀ (n : Nat) (l : List Rsc) (s : List Int), n + l.length ≤ 2 → (∀ x ∈ l, isRsc x = true) → (∀ x ∈ (rscsV n l s).1, isRsc x = true) ∧ (rscsV n l s).1.length = n + l.length := by
  intro n
  induction n with
  | zero => intro l s _ hl; exact ⟨hl, (Nat.zero_add _).symm⟩
  | succ n ih =>
    intro l s hn hl
    have hk := nx_bd s (n := 8) (by omega)
    have h := ih (l ++ [⟨rnames.getD l.length ⟨#[]⟩, 1 + (nx s 8).1⟩]) (nx s 8).2 (by rw [List.length_append, List.length_singleton]; omega) (fun x hx => by
      rcases List.mem_append.1 hx with hx | hx
      · exact hl x hx
      · rw [List.mem_singleton.1 hx]
        have e : ∀ (a : ByteArray) (k : Int), isRsc ⟨a, k⟩ = (isName a.data.toList && (decide (1 ≤ k) && decide (k ≤ 8))) := fun _ _ => rfl
        rw [e, rnames_ok _ (by omega), decide_eq_true (show 1 ≤ 1 + (nx s 8).1 by omega), decide_eq_true (show 1 + (nx s 8).1 ≤ 8 by omega)]
        rfl)
    refine ⟨h.1, ?_⟩
    have h2 := h.2
    rw [List.length_append, List.length_singleton] at h2
    show (rscsV n _ _).1.length = _
    omega
theorem isTsk_of {n : ByteArray} {b : Bool} {h p l : Int} {body : List St} (hn : isName n.data.toList = true) (h0 : 0 ≤ h) (h1 : h ≤ 3) (p0 : 1 ≤ p) (p1 : p ≤ 7) (l0 : 0 ≤ l) (l1 : l ≤ if b = true then 7 else 0) (hb : areS 30 body = true) : isTsk ⟨n, b, h, p, l, body⟩ = true := by
  have e : isTsk ⟨n, b, h, p, l, body⟩ = (isName n.data.toList && ((decide (0 ≤ h) && decide (h ≤ 3)) && ((decide (1 ≤ p) && decide (p ≤ 7)) && ((decide (0 ≤ l) && decide (l ≤ if b = true then 7 else 0)) && areS 30 body)))) := rfl
  rw [e, hn, hb, decide_eq_true h0, decide_eq_true h1, decide_eq_true p0, decide_eq_true p1, decide_eq_true l0, decide_eq_true l1]
  rfl
theorem tsks_ok {c : Sco} (hc : GoodC c) : ∀ (n : Nat) (l : List Tsk) (s : List Int), n + l.length ≤ 3 → (∀ x ∈ l, isTsk x = true) → (∀ x ∈ (tsksV c n l s).1, isTsk x = true) ∧ (tsksV c n l s).1.length = n + l.length := by
  intro n
  induction n with
  | zero => intro l s _ hl; exact ⟨hl, (Nat.zero_add _).symm⟩
  | succ n ih =>
    intro l s hn hl
    have hk := nx_bd s (n := 3) (by omega)
    have h := ih (l ++ [(tskV0 c l.length s).1]) (tskV0 c l.length s).2 (by rw [List.length_append, List.length_singleton]; omega) (fun x hx => by
      rcases List.mem_append.1 hx with hx | hx
      · exact hl x hx
      · rw [List.mem_singleton.1 hx]
        exact isTsk_of (tnames_ok _ (by omega)) (by omega) (by omega) (by omega) (by omega) (by omega) (by rw [if_neg (by decide)]; omega) (body_ok (by decide) hc _))
    refine ⟨h.1, ?_⟩
    have h2 := h.2
    rw [List.length_append, List.length_singleton] at h2
    show (tsksV c n _ _).1.length = _
    omega
theorem hdls_ok {c : Sco} (hc : GoodC c) {m : Nat} (hm : 1 ≤ m) (hm3 : m ≤ 3) : ∀ (n : Nat) (l : List Tsk) (s : List Int), m ≤ l.length → n + l.length ≤ m + 3 → (∀ x ∈ l, isTsk x = true) → (∀ x ∈ (hdlsV c m n l s).1, isTsk x = true) ∧ (hdlsV c m n l s).1.length = n + l.length := by
  intro n
  induction n with
  | zero => intro l s _ _ hl; exact ⟨hl, (Nat.zero_add _).symm⟩
  | succ n ih =>
    intro l s hlm hn hl
    have h1 := nx_bd s (n := (m : Int)) (by omega)
    have h2 := nx_bd (nx s m).2 (n := 4) (by omega)
    have h3 := nx_bd (nx (nx s m).2 4).2 (n := 2) (by omega)
    have h := ih (l ++ [(hdlV c m (l.length - m) s).1]) (hdlV c m (l.length - m) s).2 (by rw [List.length_append, List.length_singleton]; omega) (by rw [List.length_append, List.length_singleton]; omega) (fun x hx => by
      rcases List.mem_append.1 hx with hx | hx
      · exact hl x hx
      · rw [List.mem_singleton.1 hx]
        exact isTsk_of (hnames_ok _ (by omega)) h1.1 (by omega) (by omega) (by omega) (by omega) (by rw [if_pos rfl]; omega) (body_ok (by decide) hc _))
    refine ⟨h.1, ?_⟩
    have h2 := h.2
    rw [List.length_append, List.length_singleton] at h2
    show (hdlsV c m n _ _).1.length = _
    omega
theorem harts_bd (s : List Int) : 1 ≤ harts s ∧ harts s ≤ 3 := by
  have h := nx_bd s (n := 3) (by omega)
  unfold harts
  omega
theorem dev2_ok (s : List Int) : (∀ x ∈ (dev2 s).1, isDev x = true) ∧ 1 ≤ (dev2 s).1.length ∧ (dev2 s).1.length ≤ 3 := by
  have h := nx_bd (nx s 3).2 (n := 3) (by omega)
  have h2 := devs_ok (1 + (nx (nx s 3).2 3).1.toNat) [] (nx (nx s 3).2 3).2 (by show _ + 0 ≤ 3; omega) (fun x hx => by cases hx)
  refine ⟨h2.1, ?_⟩
  have h3 : (dev2 s).1.length = 1 + (nx (nx s 3).2 3).1.toNat + 0 := h2.2
  omega
theorem rsc2_ok (s : List Int) : (∀ x ∈ (rsc2 s).1, isRsc x = true) ∧ (rsc2 s).1.length ≤ 2 := by
  have h := nx_bd (dev2 s).2 (n := 3) (by omega)
  have h2 := rscs_ok (nx (dev2 s).2 3).1.toNat [] (nx (dev2 s).2 3).2 (by show _ + 0 ≤ 2; omega) (fun x hx => by cases hx)
  refine ⟨h2.1, ?_⟩
  have h3 : (rsc2 s).1.length = (nx (dev2 s).2 3).1.toNat + 0 := h2.2
  omega
theorem sco_good (s : List Int) (all : Bool) : GoodC (scoV s all) := by
  refine ⟨fun n hn => ?_, fun n hn => ?_, fun n hn => by cases hn⟩
  · obtain ⟨x, hx, rfl⟩ := List.mem_map.1 hn
    have := (dev2_ok s).1 x hx
    unfold isDev at this
    rw [Bool.and_eq_true] at this
    exact this.1
  · obtain ⟨x, hx, rfl⟩ := List.mem_map.1 hn
    have := (rsc2_ok s).1 x hx
    unfold isRsc at this
    rw [Bool.and_eq_true] at this
    exact this.1
theorem tsk2_ok (s : List Int) (all : Bool) : (∀ x ∈ (tsk2 s all).1, isTsk x = true) ∧ (tsk2 s all).1.length = harts s := by
  have h := harts_bd s
  exact tsks_ok (sco_good s all) (harts s) [] (rsc2 s).2 (by show _ + 0 ≤ 3; omega) (fun x hx => by cases hx)
theorem all2_ok (s : List Int) (all : Bool) : (∀ x ∈ (all2 s all).1, isTsk x = true) ∧ harts s ≤ (all2 s all).1.length ∧ (all2 s all).1.length ≤ harts s + 3 := by
  have h := harts_bd s
  obtain ⟨h2, h3⟩ := tsk2_ok s all
  have h4 := nx_bd (tsk2 s all).2 (n := 4) (by omega)
  have h5 := hdls_ok (sco_good s all) h.1 h.2 (nx (tsk2 s all).2 4).1.toNat (tsk2 s all).1 (nx (tsk2 s all).2 4).2 (by omega) (by omega) h2
  refine ⟨h5.1, ?_⟩
  have h6 : (all2 s all).1.length = _ := h5.2
  omega
theorem progS_right (s : List Int) (all : Bool) : right (progS s all) = true := by
  have h := harts_bd s
  obtain ⟨h1, h2, h3⟩ := dev2_ok s
  obtain ⟨h4, h5⟩ := rsc2_ok s
  obtain ⟨h6, h7, h8⟩ := all2_ok s all
  have e : right (progS s all) = ((decide ((1 : Int) ≤ (harts s : Int)) && decide ((harts s : Int) ≤ 4)) && (decide ((dev2 s).1.length ≤ 8) && ((dev2 s).1.all isDev && (decide ((rsc2 s).1.length ≤ 8) && ((rsc2 s).1.all isRsc && (decide ((all2 s all).1.length ≤ 16) && (all2 s all).1.all isTsk)))))) := rfl
  rw [e, List.all_eq_true.2 h1, List.all_eq_true.2 h4, List.all_eq_true.2 h6, decide_eq_true (by omega), decide_eq_true (by omega), decide_eq_true (by omega), decide_eq_true (by omega), decide_eq_true (by omega)]
  rfl
theorem prog_right (raw : List Int) (all : Bool) : right (progV raw all) = true := progS_right _ _
end Sy
end Go.Proofs.YthlnjnmomnpnpaaGreatDoor
