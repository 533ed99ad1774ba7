/- An image that comes in by its value; what the library's variables hold where they read as their initialisers lay them; a law's last step. -/
import Derived.Test.YtbfmlbcjggplgaaGreatDoorRows
import Derived.Test.YtbfmlbcjggplgaaGreatDoorIRead0
import Derived.Test.YtbfmlbcjggplgaaGreatDoorIAwk
import Derived.Deep.Slices
import Derived.ProofKit
import Derived.OpenShut
import Derived.LaidSub
import Derived.Stop.LaidErr
import Derived.Lib.LaidTab
import Derived.MakeChecks
import Derived.Lay
import Derived.Test.YtbfmlbcjggplgaaGreatDoorIFields
import Derived.Lib.LaidU8
namespace Go.Proofs.YtbfmlbcjggplgaaGreatDoor
open Go.ChangeShapes Go.WideShapes Go.ChangeAt Go.RowKit Im
set_option linter.unusedVariables false
theorem own : ownKnob Tryz.prog.godebug = none := by kernel_rfl
theorem cellsInt : Tryz.prog.cellsOf 3 = 1 := by kernel_rfl
theorem cellsStr : Tryz.prog.cellsOf 9 = 1 := by kernel_rfl
theorem cellsSym : Tryz.prog.cellsOf 42 = 2 := by kernel_rfl
theorem cellsImg : Tryz.prog.cellsOf 25 = 3 := by kernel_rfl
theorem cellsInts : Tryz.prog.cellsOf 22 = 1 := by kernel_rfl
theorem cellsSyms : Tryz.prog.cellsOf 23 = 1 := by kernel_rfl
theorem spot_none {W : World} {a : Addr} {v : Value} (h : W.cell? a = some v) : a.spot = none := by
  unfold World.cell? at h
  cases hs : a.spot with
  | none => rfl
  | some q =>
    rw [hs] at h
    split at h
    · simp at h
    · cases h
set_option maxRecDepth 100000 in
theorem open_enc {α : Type} (z : α) {ec : α → List Value} {k : Nat} {t T : TypeId} {wf : α → Prop} {H : Type} {enc : TypeId × Value → H} {W : World} {base : Nat} {sp : Nat → Bool} {held : Bool} {fuel : Nat} {cs : List Value} {x : DataW H × List MemPlace}
    (hk : ∀ x, (ec x).length = k) (hk0 : 0 < k) (hT : Tryz.prog.underlying T = some (.slice t)) (hc : Tryz.prog.cellsOf t = k)
    (hone : ∀ (fuel : Nat) (cs : List Value) (x : DataW H × List MemPlace), DataW.trod enc Tryz.prog W base sp held fuel t cs = some x → ∃ y : α, cs = ec y ∧ wf y)
    (h : DataW.trod enc Tryz.prog W base sp held fuel T cs = some x) :
    ∃ (P : Option Addr) (n c : Nat) (raw : List α), cs = [.slice P n c] ∧ raw.length = n ∧ n ≤ 9223372036854775807 ∧ EncAt ec k W P raw ∧ ∀ x ∈ raw, wf x := by
  rcases Go.Deep.open_slice hT h with ⟨rfl, _⟩ | ⟨a, len, cap, m, n, D, Pl, rfl, hb, hl, hm, hmm, hx, hel⟩
  · exact ⟨none, 0, 0, [], rfl, rfl, by omega, EncAt.nil _ _ _ _, fun x hx => by cases hx⟩
  · have hlm : len ≤ m := by rw [hmm]; split <;> omega
    have hon : ∀ i, ∃ y : α, i < len → wf y ∧ W.cells? base (a.add (i * k)) k = some (ec y) := by
      intro i
      by_cases hi : i < len
      · obtain ⟨cs', h1, h2⟩ := hel i (by omega)
        rw [hc] at h1
        obtain ⟨y, rfl, hw⟩ := hone _ _ _ h2
        exact ⟨y, fun _ => ⟨hw, h1⟩⟩
      · exact ⟨z, fun c => absurd c hi⟩
    obtain ⟨f, hf'⟩ := Classical.skolem.1 hon
    have hget : ∀ j, j < len → ((List.range len).map f)[j]? = some (f j) := fun j hj => by rw [List.getElem?_map, List.getElem?_range hj]; rfl
    refine ⟨some a, len, cap, (List.range len).map f, rfl, by simp, by unfold maxLen at hm; omega, fun j x hj => ?_, fun x hx' => ?_⟩
    · have hjl : j < len := by have := (List.getElem?_eq_some_iff.1 hj).1; simpa using this
      rw [hget j hjl] at hj
      obtain rfl := Option.some.inj hj
      obtain ⟨_, h2⟩ := hf' j hjl
      obtain ⟨_, _, h3⟩ := World.cells?_some h2
      obtain ⟨_, g2⟩ := hf' 0 (by omega)
      obtain ⟨_, _, g3⟩ := World.cells?_some g2
      obtain ⟨v0, hv0⟩ : ∃ v, (ec (f 0))[0]? = some v := ⟨_, List.getElem?_eq_getElem (by rw [hk]; exact hk0)⟩
      have h4 := (g3 0 hk0).trans hv0
      rw [Nat.zero_mul] at h4
      have hs := spot_none h4
      have h0 := World.block_lt_of_cell? _ _ h4
      obtain ⟨b, o, s⟩ := a
      simp only [Addr.add] at hs
      subst hs
      refine ⟨b, o, rfl, h0, fun i u hu => ?_⟩
      have hik : i < k := by have := (List.getElem?_eq_some_iff.1 hu).1; rwa [hk] at this
      have h5 := (h3 i hik).trans hu
      rw [Addr.add_lit, Addr.add_lit] at h5
      exact h5
    · obtain ⟨i, hi, rfl⟩ := List.mem_map.1 hx'
      exact (hf' i (List.mem_range.1 hi)).1
set_option maxRecDepth 100000 in
theorem open_sym_cells {H : Type} {enc : TypeId × Value → H} {W : World} {base : Nat} {sp : Nat → Bool} {held : Bool} (fuel : Nat) (cs : List Value) (x : DataW H × List MemPlace)
    (h : DataW.trod enc Tryz.prog W base sp held fuel 42 cs = some x) : ∃ y : Sym, cs = scell y ∧ (y.name.size ≤ maxLen ∧ -9223372036854775808 ≤ y.place ∧ y.place ≤ 9223372036854775807) := by
  obtain ⟨xs, n, _, _, hsz, hlen, hel⟩ := DataW.trod_struct Tryz.underlying42 h
  rw [cellsSym] at hsz
  match cs, hsz with
  | [a0, a1], _ =>
    match xs, hlen with
    | [z0, z1], _ =>
      obtain ⟨s, q0, g0, w0⟩ := DataW.trod_string Tryz.underlying9 (hel 0 _ rfl)
      obtain ⟨v, q1, g1, w1⟩ := DataW.trod_int Tryz.underlying3 (hel 1 _ rfl)
      simp [cellsInt, cellsStr] at q0 q1
      subst q0 q1
      exact ⟨⟨s, v⟩, rfl, w0, bounds_i64 w1⟩
theorem open_int_cells {H : Type} {enc : TypeId × Value → H} {W : World} {base : Nat} {sp : Nat → Bool} {held : Bool} (fuel : Nat) (cs : List Value) (x : DataW H × List MemPlace)
    (h : DataW.trod enc Tryz.prog W base sp held fuel 3 cs = some x) : ∃ y : Int, cs = icell y ∧ (-9223372036854775808 ≤ y ∧ y ≤ 9223372036854775807) := by
  obtain ⟨y, q, g, hw⟩ := DataW.trod_int Tryz.underlying3 h
  exact ⟨y, q, bounds_i64 hw⟩
set_option maxRecDepth 100000 in
theorem open_image {H : Type} {enc : TypeId × Value → H} {W : World} {b0 base : Nat} {sp : Nat → Bool} {held : Bool} {r : Reach} {v : Value} {d : DataW H} {p : List MemPlace}
    (hv : Value.okWide Tryz.prog W r b0 25 v) (h : DataW.Trod enc Tryz.prog W base sp held 25 v d p) : ∃ (wp sp' : Option Addr) (wc sc : Nat) (raw : Img), v = imgV wp sp' wc sc raw ∧ Hid (ImgAt W wp sp' raw) := by
  obtain ⟨cs, rfl, _⟩ := okWide_struct Tryz.underlying25 hv
  obtain ⟨fuel, hf⟩ := h
  obtain ⟨xs, n, _, _, hsz, hlen, hel⟩ := DataW.trod_struct Tryz.underlying25 hf
  rw [cellsImg] at hsz
  obtain ⟨l⟩ := cs
  simp only [Value.cells] at hsz hel
  match l, hsz with
  | [a0, a1, a2], _ =>
    match xs, hlen with
    | [z0, z1, z2], _ =>
      obtain ⟨P, n0, c0, ws, q0, l0, m0, e0, f0⟩ := open_enc (ec := icell) (k := 1) 0 (fun _ => rfl) (by decide) Tryz.underlying22 cellsInt open_int_cells (hel 0 _ rfl)
      obtain ⟨v1, q1, g1, w1⟩ := DataW.trod_int Tryz.underlying3 (hel 1 _ rfl)
      obtain ⟨Q, n2, c2, ss, q2, l2, m2, e2, f2⟩ := open_enc (ec := scell) (k := 2) ⟨⟨#[]⟩, 0⟩ (fun _ => rfl) (by decide) Tryz.underlying23 cellsSym open_sym_cells (hel 2 _ rfl)
      simp [cellsInt, cellsInts, cellsSyms] at q0 q1 q2
      subst q0 q1 q2 l0 l2
      exact ⟨P, Q, c0, c2, ⟨ws, v1, ss⟩, rfl, ⟨e0, e2, f0, f2, bounds_i64 w1, m0, m2⟩⟩
/-! ### the library's variables -/
theorem gES : Tryz.prog.globalNamed "strconv.ErrSyntax" = some 3 := by kernel_rfl
theorem gESType : (Tryz.prog.globals[3]?).map (·.type) = some 65 := by kernel_rfl
theorem gER : Tryz.prog.globalNamed "strconv.ErrRange" = some 4 := by kernel_rfl
theorem gERType : (Tryz.prog.globals[4]?).map (·.type) = some 65 := by kernel_rfl
theorem gPowType : (Tryz.prog.globals[5]?).map (·.type) = some 142 := by kernel_rfl
theorem cellsES : Tryz.prog.cellsOf 162 = 1 := by kernel_rfl
theorem cellsU64 : Tryz.prog.cellsOf 85 = 1 := by kernel_rfl
theorem cellsPow : Tryz.prog.cellsOf 142 = 20 := by kernel_rfl
theorem star : "*" ++ "errors.errorString" = "*errors.errorString" := by decide
theorem rowES (u : TypeId) (h : Tryz.prog.typeName? 3 u = some "*errors.errorString") : u = 160 :=
  typeName_ptr_named (nm := "errors.errorString") (by rw [star]; kernel_rfl) (by kernel_rfl) (by decide) u (by rw [star]; exact h)
abbrev laidAllI : List (String × DataW Unit) := Rows.imageFindsRow.laid
theorem filt_es : laidAllI.filter (fun x => x.1 == "strconv.ErrSyntax") = [("strconv.ErrSyntax", Rows.laid_strconv_ErrSyntax)] := by kernel_rfl
theorem filt_er : laidAllI.filter (fun x => x.1 == "strconv.ErrRange") = [("strconv.ErrRange", Rows.laid_strconv_ErrRange)] := by kernel_rfl
theorem filt_pow : laidAllI.filter (fun x => x.1 == "internal/strconv.uint64pow10") = [("internal/strconv.uint64pow10", Rows.laid_internal_strconv_uint64pow10)] := by kernel_rfl
theorem pow_eq : (Rows.laid_internal_strconv_uint64pow10 : DataW Unit) = Lib.tabData .u64 Lib.pow10Tab := by kernel_rfl
theorem cell_lt {W : World} {a : Addr} {v : Value} (h : W.cell? a = some v) : a.block < W.heap.size := World.block_lt_of_cell? _ _ h
set_option maxRecDepth 100000 in
theorem lib_of_laid {W : World} (h : laidMetH Tryz.prog laidAllI W) (hsh : W.ShapedOpen Tryz.prog) : LibAt W := by
  rw [MakeChecks.laidMetH_plain _ _ _ (by kernel_rfl)] at h
  have h1 := h.filter (fun x => x.1 == "strconv.ErrSyntax")
  have h2 := h.filter (fun x => x.1 == "strconv.ErrRange")
  have h3 := h.filter (fun x => x.1 == "internal/strconv.uint64pow10")
  rw [filt_es] at h1
  rw [filt_er] at h2
  rw [filt_pow, pow_eq] at h3
  obtain ⟨a1, s1, hv1, -, -, -⟩ := laid_sentinel h1 gES gESType Tryz.underlying65 rowES Tryz.underlying160 Tryz.underlying162 rfl rfl Tryz.underlying9 cellsES cellsStr
  obtain ⟨a2, s2, hv2, -, -, -⟩ := laid_sentinel h2 gER gERType Tryz.underlying65 rowES Tryz.underlying160 Tryz.underlying162 rfl rfl Tryz.underlying9 cellsES cellsStr
  have c1 : W.cell? ⟨3, 0, none⟩ = some (.iface 160 (.pointer (some a1))) := by have := World.var?_cell gES hv1 0; simpa using this
  have c2 : W.cell? ⟨4, 0, none⟩ = some (.iface 160 (.pointer (some a2))) := by have := World.var?_cell gER hv2 0; simpa using this
  obtain ⟨m, hm⟩ := cell_of_shapedOpen_int (P := Tryz.prog) (g := 0) (t := 3) (zero := #[.int .i64 0]) hsh (of_decide_eq_true (by kernel_rfl)) (by kernel_rfl) rfl (by kernel_rfl) (by kernel_rfl) Tryz.underlying3
  refine ⟨⟨⟨_, c1, Or.inr ⟨_, _, rfl⟩⟩, ⟨_, c2, Or.inr ⟨_, _, rfl⟩⟩, cell_lt c1, cell_lt c2⟩, ?_, ⟨m, hm, cell_lt hm⟩⟩
  have ht := Lib.tabIs_of_head gPow gPowType Tryz.underlying142 Tryz.underlying85 cellsU64 cellsPow h3
  unfold Lib.TabIs World.var? at ht
  rw [gPow] at ht
  simp only [Option.bind_some] at ht
  split at ht
  · rename_i cs' t fr hh
    obtain rfl := Option.some.inj ht
    exact ⟨t, fr, hh⟩
  · cases ht
set_option maxRecDepth 100000 in
/-- a law that answers true, of whose memory it is known that nothing of what was there has turned: its post -/
theorem post_law {H : Type} {enc : TypeId × Value → H} {f : Func} {s : ChangeSpec} {apart fresh handsOn again : Bool} {W W' : World} {args : Array Value} {v : Value} {ds gs : List (DataW H)} {before : List MemPlace}
    (hW : DataW.Whole enc Tryz.prog f.params.toList s.vars apart W args.toList ds gs before)
    (hres : ∀ (b : Nat) (sp : Nat → Bool) (hd : Bool), DataW.TrodAll enc Tryz.prog W' b sp hd f.resultTypes.toList (v.resultList f.resultTypes.size) (s.fn H (ds ++ gs)).results [])
    (hargs : ∀ sp : Nat → Bool, (∀ p ∈ before, sp p.block = true) → DataW.TrodAll enc Tryz.prog W' 0 sp true f.params.toList args.toList (s.fn H (ds ++ gs)).args before)
    (hvars : ∀ sp : Nat → Bool, DataW.TrodVars enc Tryz.prog W' sp s.vars (s.fn H (ds ++ gs)).vars [])
    (hb : Bel W W')
    (hok : ∀ (j : Nat) (t : TypeId) (r : Value), f.resultTypes[j]? = some t → (v.resultList f.resultTypes.size)[j]? = some r → Value.okWide Tryz.prog W' .any 0 t r) :
    s.post enc Tryz.prog f apart fresh handsOn again W args v W' := by
  have hlt := hW.lt
  have hW2 := hW
  obtain ⟨_, _, _, _, _, hfz, hnd⟩ := hW2
  have here : ∀ p ∈ before, (fun b => decide (b < W.heap.size)) p.block = true := fun p hp => decide_eq_true (hlt p hp)
  have kept : W.keptBut W' fun p => p ∈ before := Below.frame hb _
  have all : ∀ sp : Nat → Bool, (∀ p ∈ before, sp p.block = true) → DataW.TrodAll enc Tryz.prog W' 0 sp true (f.resultTypes.toList ++ f.params.toList) (v.resultList f.resultTypes.size ++ args.toList) ((s.fn H (ds ++ gs)).results ++ (s.fn H (ds ++ gs)).args) ([] ++ before) := fun sp hsp => trodAll_append (hargs sp hsp) (hres 0 sp true)
  have twice : DataW.Whole enc Tryz.prog (f.resultTypes.toList ++ f.params.toList) s.vars apart W' (v.resultList f.resultTypes.size ++ args.toList) ((s.fn H (ds ++ gs)).results ++ (s.fn H (ds ++ gs)).args) (s.fn H (ds ++ gs)).vars before := by
    refine ⟨[] ++ before, [], all _ fun _ _ => rfl, hvars _, by simp, fun b off hp => ?_, hnd⟩
    rw [Below.frozen hb (hlt _ hp)]
    exact hfz b off hp
  refine ⟨ds, gs, before, [], before, [], hW, hres _ _ _, hargs _ here, hvars _, World.keptBut_mono (fun p hp => ⟨hp, Or.inr (Or.inl hp)⟩) kept, fun _ => ⟨hok, _, _, before, twice, fun p hp _ => by simpa using hp⟩⟩
end Go.Proofs.YtbfmlbcjggplgaaGreatDoor
/- What the library's tables of blanks hold where they read as their initialisers lay them. -/
namespace Go.Proofs.YtbfmlbcjggplgaaGreatDoor
open Go.RowKit Go.Lib Im
set_option linter.unusedVariables false
theorem gSp : Tryz.prog.globalNamed "strings.asciiSpace" = some 1 := by kernel_rfl
theorem gSpType : (Tryz.prog.globals[1]?).map (·.type) = some 112 := by kernel_rfl
theorem cellsU8 : Tryz.prog.cellsOf 5 = 1 := by kernel_rfl
theorem cellsSp : Tryz.prog.cellsOf 112 = 256 := by kernel_rfl
def spTab : List Int := (List.range 256).map fun c => if 9 ≤ c ∧ c ≤ 13 ∨ c = 32 then 1 else 0
theorem filt_sp : laidAllI.filter (fun x => x.1 == "strings.asciiSpace") = [("strings.asciiSpace", Rows.laid_strings_asciiSpace)] := by kernel_rfl
theorem sp_eq : (Rows.laid_strings_asciiSpace : DataW Unit) = Lib.tabData .u8 spTab := by kernel_rfl
theorem first_mem : ("unicode/utf8.first", Lib.firstData) ∈ laidAllI := by
  have : laidAllI.filter (fun x => x.1 == "unicode/utf8.first") = [("unicode/utf8.first", Lib.firstData)] := by kernel_rfl
  exact ((List.mem_filter (p := fun x => x.1 == "unicode/utf8.first")).1 (by rw [this]; exact List.mem_singleton.2 rfl)).1
theorem accept_mem : ("unicode/utf8.acceptRanges", Lib.acceptData) ∈ laidAllI := by
  have : laidAllI.filter (fun x => x.1 == "unicode/utf8.acceptRanges") = [("unicode/utf8.acceptRanges", Lib.acceptData)] := by kernel_rfl
  exact ((List.mem_filter (p := fun x => x.1 == "unicode/utf8.acceptRanges")).1 (by rw [this]; exact List.mem_singleton.2 rfl)).1
theorem white_mem : ("unicode.White_Space", Lib.whiteData) ∈ laidAllI := by
  have : laidAllI.filter (fun x => x.1 == "unicode.White_Space") = [("unicode.White_Space", Lib.whiteData)] := by kernel_rfl
  exact ((List.mem_filter (p := fun x => x.1 == "unicode.White_Space")).1 (by rw [this]; exact List.mem_singleton.2 rfl)).1
set_option maxRecDepth 100000 in
theorem sp_of_laid {W : World} (h : laidMetH Tryz.prog laidAllI W) : SpAt W := by
  rw [MakeChecks.laidMetH_plain _ _ _ (by kernel_rfl)] at h
  have h3 := h.filter (fun x => x.1 == "strings.asciiSpace")
  rw [filt_sp, sp_eq] at h3
  refine ⟨fun c hc => ?_, utf8Tabs_of_reads { Tryz.lays197 with } ⟨by kernel_rfl, by kernel_rfl, by kernel_rfl, by kernel_rfl, by kernel_rfl, by kernel_rfl, by kernel_rfl⟩ (Lib.laidMet.reads h first_mem) (Lib.laidMet.reads h accept_mem), whiteTab_of_reads { Tryz.lays199 with } ⟨by kernel_rfl, by kernel_rfl, by kernel_rfl, by kernel_rfl, by kernel_rfl, by kernel_rfl, by kernel_rfl, by kernel_rfl⟩ (Lib.laidMet.reads h white_mem)⟩
  have ht := Lib.tabIs_of_head gSp gSpType Tryz.underlying112 Tryz.underlying5 cellsU8 cellsSp h3
  unfold Lib.TabIs World.var? at ht
  rw [gSp] at ht
  simp only [Option.bind_some] at ht
  split at ht
  · rename_i cs' t fr hh
    obtain rfl := Option.some.inj ht
    rw [cell_of_heap hh c]
    unfold spTab
    simp [hc]
  · cases ht
end Go.Proofs.YtbfmlbcjggplgaaGreatDoor
