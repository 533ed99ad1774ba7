/- What is read of a right image's text is that image; in plain words. -/
import Derived.Test.YtbfmlbcjggplgaaGreatDoorIPrint
import Derived.Lib.IndexMore
namespace Go.Proofs.YtbfmlbcjggplgaaGreatDoor.Im
set_option linter.unusedVariables false
def asc (s : Bs) : Prop := ∀ c ∈ s, c.toNat < 128
/-- the pieces of a text, parted by a byte -/
def splitV (c : UInt8) : Bs → List Bs
  | [] => [[]]
  | x :: r => if x = c then [] :: splitV c r else match splitV c r with
    | [] => [[x]]
    | a :: l => (x :: a) :: l
theorem splitV_none {c : UInt8} : ∀ {s : Bs}, (∀ x ∈ s, x ≠ c) → splitV c s = [s]
  | [], _ => rfl
  | x :: r, h => by
    unfold splitV
    rw [if_neg (h x (by simp)), splitV_none fun y hy => h y (by simp [hy])]
theorem splitV_app {c : UInt8} : ∀ {a r : Bs}, (∀ x ∈ a, x ≠ c) → splitV c (a ++ c :: r) = a :: splitV c r
  | [], r, _ => by
    show splitV c (c :: r) = _
    rw [splitV, if_pos rfl]
  | x :: a, r, h => by
    show splitV c (x :: (a ++ c :: r)) = _
    rw [splitV, if_neg (h x (by simp)), splitV_app fun y hy => h y (by simp [hy])]
def isSp (c : UInt8) : Bool := decide (9 ≤ c.toNat ∧ c.toNat ≤ 13 ∨ c.toNat = 32)
/-- the words of a text, parted by blanks of one byte; cur: the one begun -/
def fieldsG (cur : Bs) : Bs → List Bs
  | [] => if cur = [] then [] else [cur]
  | x :: r => if isSp x = true then (if cur = [] then fieldsG [] r else cur :: fieldsG [] r) else fieldsG (cur ++ [x]) r
theorem fieldsG_word : ∀ (a cur r : Bs), (∀ x ∈ a, isSp x = false) → fieldsG cur (a ++ r) = fieldsG (cur ++ a) r
  | [], cur, r, _ => by rw [List.append_nil]; rfl
  | x :: a, cur, r, h => by
    show fieldsG cur (x :: (a ++ r)) = _
    rw [fieldsG, if_neg (by rw [h x (by simp)]; exact Bool.false_ne_true), fieldsG_word a _ r fun y hy => h y (by simp [hy])]
    rw [List.append_assoc]
    rfl
def SEP : Bs := [10, 99, 111, 100, 101, 10]
def symV (l : Bs) : Sym := ⟨str (Lib.cut l [32]).2.1, numV (Lib.cut l [32]).1⟩
/-- what is read of a text -/
structure ReadOf (t : Bs) (m : Img) : Prop where
  words : asc (Lib.cut t SEP).2.1 → m.words = (fieldsG [] (Lib.cut t SEP).2.1).map numV
  mem : ∀ x, Lib.atoiAll (Lib.trimPrefix (Lib.cut (Lib.cut t SEP).1 [10]).1 [105, 109, 97, 103, 101, 32]) = .ok x → m.mem = x
  syms : m.syms = if (Lib.cut (Lib.cut t SEP).1 [10]).2.2 = true then (splitV 10 (Lib.cut (Lib.cut t SEP).1 [10]).2.1).map symV else []
-- digits
theorem hexd_fin : ∀ i : Fin 16, hexV (hexd i.val) = i.val ∧ isSp (hexd i.val) = false ∧ (hexd i.val).toNat < 128 ∧ hexd i.val ≠ 32 ∧ hexd i.val ≠ 10 ∧ hexd i.val ≠ 111 := by decide +kernel
theorem hexd_all (n : Nat) (h : n < 16) : hexV (hexd n) = n ∧ isSp (hexd n) = false ∧ (hexd n).toNat < 128 ∧ hexd n ≠ 32 ∧ hexd n ≠ 10 ∧ hexd n ≠ 111 := hexd_fin ⟨n, h⟩
theorem dig_all (n : Int) (j : Nat) : isSp (dig n j) = false ∧ (dig n j).toNat < 128 ∧ dig n j ≠ 32 ∧ dig n j ≠ 10 ∧ dig n j ≠ 111 := (hexd_all _ (by omega)).2
theorem hex8_all {n : Int} {c : UInt8} (h : c ∈ hex8 n) : isSp c = false ∧ c.toNat < 128 ∧ c ≠ 32 ∧ c ≠ 10 ∧ c ≠ 111 := by
  unfold hex8 at h
  simp only [List.mem_cons, List.not_mem_nil, or_false] at h
  rcases h with rfl | rfl | rfl | rfl | rfl | rfl | rfl | rfl <;> exact dig_all _ _
theorem parse16_hexd {acc d : Nat} {r : Bs} (hd : d < 16) (h : acc * 16 + d ≤ 4294967295) : parse16 acc (hexd d :: r) = parse16 (acc * 16 + d) r := by
  rw [parse16, (hexd_all d hd).1, if_pos hd, if_neg (by omega)]
theorem numV_hex8 {n : Int} (h0 : 0 ≤ n) (h1 : n ≤ 4294967295) : numV (hex8 n) = n := by
  obtain ⟨N, rfl⟩ : ∃ N : Nat, n = (N : Int) := ⟨n.toNat, by omega⟩
  have e : ∀ j : Nat, dig (N : Int) j = hexd (N / 16 ^ j % 16) := fun j => by
    unfold dig
    congr 1
  unfold numV
  rw [if_neg (by unfold hex8; simp)]
  unfold hex8
  simp only [e]
  simp only [show (16 : Nat) ^ 7 = 268435456 from rfl, show (16 : Nat) ^ 6 = 16777216 from rfl, show (16 : Nat) ^ 5 = 1048576 from rfl, show (16 : Nat) ^ 4 = 65536 from rfl, show (16 : Nat) ^ 3 = 4096 from rfl, show (16 : Nat) ^ 2 = 256 from rfl, show (16 : Nat) ^ 1 = 16 from rfl, show (16 : Nat) ^ 0 = 1 from rfl]
  have hN : N ≤ 4294967295 := by omega
  rw [parse16_hexd (by omega) (by omega), parse16_hexd (by omega) (by omega), parse16_hexd (by omega) (by omega), parse16_hexd (by omega) (by omega), parse16_hexd (by omega) (by omega), parse16_hexd (by omega) (by omega), parse16_hexd (by omega) (by omega), parse16_hexd (by omega) (by omega)]
  unfold parse16
  show ((_ : Nat) : Int) = (N : Int)
  omega
theorem parse10_app : ∀ (l : Bs) (acc u : Nat) (d : Nat), d < 10 → Lib.parseUint10 acc l = .ok u → u * 10 + d < 18446744073709551616 → Lib.parseUint10 acc (l ++ [UInt8.ofNat (48 + d)]) = .ok (u * 10 + d)
  | [], acc, u, d, hd, h, hu => by
    simp only [Lib.parseUint10] at h
    injection h with h
    subst h
    have e : (UInt8.ofNat (48 + d)).toNat = 48 + d := by simp; omega
    show Lib.parseUint10 acc [UInt8.ofNat (48 + d)] = _
    unfold Lib.parseUint10
    rw [e, if_pos (by omega), if_neg (by omega), if_neg (by omega)]
    unfold Lib.parseUint10
    congr 1
    omega
  | c :: r, acc, u, d, hd, h, hu => by
    show Lib.parseUint10 acc (c :: (r ++ _)) = _
    unfold Lib.parseUint10 at h ⊢
    split at h
    · rename_i hc
      rw [if_pos hc]
      split at h
      · cases h
      · rename_i h1
        rw [if_neg h1]
        split at h
        · cases h
        · rename_i h2
          rw [if_neg h2]
          exact parse10_app r _ u d hd h hu
    · cases h
theorem decDigits_rec (u : Nat) : Lib.decDigits u = if u < 10 then [UInt8.ofNat (48 + u)] else Lib.decDigits (u / 10) ++ [UInt8.ofNat (48 + u % 10)] := by
  rw [Lib.decDigits]
  split <;> rfl
theorem parse10_dec : ∀ (n u : Nat), u ≤ n → u < 1000000 → Lib.parseUint10 0 (Lib.decDigits u) = .ok u
  | 0, u, h, _ => by
    obtain rfl : u = 0 := by omega
    rw [decDigits_rec, if_pos (by decide)]
    rfl
  | n + 1, u, h, hu => by
    rw [decDigits_rec]
    split
    · rename_i h10
      have := parse10_app [] 0 0 u h10 rfl (by omega)
      simpa using this
    · have ih := parse10_dec n (u / 10) (by omega) (by omega)
      have := parse10_app _ 0 _ (u % 10) (by omega) ih (by omega)
      rw [this]
      congr 1
      omega
theorem decDigits_bytes : ∀ (n u : Nat), u ≤ n → ∀ c ∈ Lib.decDigits u, 48 ≤ c.toNat ∧ c.toNat ≤ 57
  | n, u, h, c, hc => by
    rw [decDigits_rec] at hc
    split at hc
    · obtain rfl := List.mem_singleton.1 hc
      simp
      omega
    · rcases List.mem_append.1 hc with hc | hc
      · cases n with
        | zero => omega
        | succ n => exact decDigits_bytes n (u / 10) (by omega) c hc
      · obtain rfl := List.mem_singleton.1 hc
        simp
        omega
theorem decDigits_ne (u : Nat) : Lib.decDigits u ≠ [] := by
  rw [decDigits_rec]
  split <;> simp
theorem itoa_bytes {n : Int} (h : 0 ≤ n) : ∀ c ∈ Lib.itoa n, 48 ≤ c.toNat ∧ c.toNat ≤ 57 := by
  unfold Lib.itoa
  rw [if_neg (by omega)]
  exact decDigits_bytes _ _ (Nat.le_refl _)
theorem atoi_itoa {n : Int} (h0 : 0 ≤ n) (h1 : n ≤ 4096) : Lib.atoiAll (Lib.itoa n) = .ok n := by
  have hb := itoa_bytes h0
  have he : Lib.itoa n = Lib.decDigits n.toNat := by unfold Lib.itoa; rw [if_neg (by omega)]
  have hp := parse10_dec n.toNat n.toNat (Nat.le_refl _) (by omega)
  rw [he] at hb ⊢
  cases hl : Lib.decDigits n.toNat with
  | nil => exact absurd hl (decDigits_ne _)
  | cons c r =>
    have hc := hb c (by rw [hl]; simp)
    rw [hl] at hp
    unfold Lib.atoiAll
    simp only
    rw [if_neg (by omega)]
    unfold Lib.parseMag
    rw [if_neg (by simp), hp]
    simp only
    rw [if_neg (by omega), if_neg (by omega), if_neg (by omega)]
    congr 1
    omega
-- places of a piece
theorem index_skip {s r : Bs} {b : UInt8} {i : Nat} : ∀ {a : Bs}, (∀ x ∈ a, x ≠ b) → Lib.index r (b :: s) = (i : Int) → Lib.index (a ++ r) (b :: s) = ((a.length + i : Nat) : Int)
  | [], _, h => by
    show Lib.index r (b :: s) = _
    rw [h]
    simp
  | x :: a, ha, h => by
    have ih := index_skip (a := a) (fun y hy => ha y (by simp [hy])) h
    show Lib.index (x :: (a ++ r)) (b :: s) = _
    unfold Lib.index
    have hx : (b :: s).isPrefixOf (x :: (a ++ r)) = false := by
      have : (b == x) = false := by rw [beq_eq_false_iff_ne]; exact fun e => ha x (by simp) e.symm
      simp [List.isPrefixOf, this]
    rw [hx, ih]
    have : ((((a.length + i : Nat) : Int)) == -1) = false := by rw [beq_eq_false_iff_ne]; omega
    rw [this]
    simp
    omega
theorem index_not {b : UInt8} : ∀ {a : Bs}, (∀ x ∈ a, x ≠ b) → Lib.index a [b] = -1
  | [], _ => rfl
  | x :: a, ha => by
    have ih := index_not (a := a) (fun y hy => ha y (by simp [hy]))
    unfold Lib.index
    have hx : [b].isPrefixOf (x :: a) = false := by
      have : (b == x) = false := by rw [beq_eq_false_iff_ne]; exact fun e => ha x (by simp) e.symm
      simp [List.isPrefixOf, this]
    rw [hx, ih]
    rfl
theorem cut_at {A S B : Bs} (h : Lib.index (A ++ (S ++ B)) S = (A.length : Int)) : Lib.cut (A ++ (S ++ B)) S = (A, B, true) := by
  unfold Lib.cut
  rw [h, if_pos (by omega)]
  simp
theorem cut_one {A B : Bs} {b : UInt8} (h : ∀ x ∈ A, x ≠ b) : Lib.cut (A ++ b :: B) [b] = (A, B, true) := by
  have h0 : Lib.index (b :: B) [b] = ((0 : Nat) : Int) := by
    unfold Lib.index
    simp
  have := index_skip (s := []) h h0
  exact cut_at (S := [b]) (by simpa using this)
theorem cut_not {A : Bs} {b : UInt8} (h : ∀ x ∈ A, x ≠ b) : Lib.cut A [b] = (A, [], false) := by
  unfold Lib.cut
  rw [index_not h, if_neg (by omega)]
/-- a symbol's line, without its line feed; all of them, joined -/
def lineT (x : Sym) : Bs := hex8 x.place ++ 32 :: x.name.data.toList
def joinL : List Sym → Bs
  | [] => []
  | [x] => lineT x
  | x :: y :: l => lineT x ++ 10 :: joinL (y :: l)
theorem symT_line (x : Sym) : symT x = lineT x ++ [10] := by
  unfold symT lineT
  simp
theorem symsT_join : ∀ (x : Sym) (l : List Sym), symsT (x :: l) = joinL (x :: l) ++ [10]
  | x, [] => by
    unfold symsT joinL
    rw [List.flatMap_cons, symT_line]
    simp
  | x, y :: l => by
    have ih := symsT_join y l
    unfold symsT at ih ⊢
    rw [List.flatMap_cons, ih, symT_line, joinL]
    simp
theorem lab_bytes {s : ByteArray} (h : isLab s = true) : ∀ c ∈ s.data.toList, 33 ≤ c.toNat ∧ c.toNat ≤ 126 := by
  unfold isLab at h
  rw [Bool.and_eq_true, List.all_eq_true] at h
  exact fun c hc => of_decide_eq_true (h.2 c hc)
theorem line_no10 {x : Sym} (h : isLab x.name = true) : ∀ c ∈ lineT x, c ≠ 10 := by
  intro c hc
  unfold lineT at hc
  rcases List.mem_append.1 hc with hc | hc
  · exact (hex8_all hc).2.2.2.1
  · rcases List.mem_cons.1 hc with rfl | hc
    · decide
    · have := lab_bytes h c hc
      rintro rfl
      have e : (10 : UInt8).toNat = 10 := rfl
      omega
theorem symV_line {x : Sym} (h0 : 0 ≤ x.place) (h1 : x.place ≤ 4294967295) : symV (lineT x) = x := by
  unfold symV lineT
  rw [cut_one fun c hc => (hex8_all hc).2.2.1]
  show (⟨str x.name.data.toList, numV (hex8 x.place)⟩ : Sym) = x
  rw [str_of, numV_hex8 h0 h1]
theorem split_join : ∀ (x : Sym) (l : List Sym), (∀ y ∈ x :: l, isLab y.name = true) → splitV 10 (joinL (x :: l)) = (x :: l).map lineT
  | x, [], h => by
    show splitV 10 (lineT x) = _
    rw [splitV_none (line_no10 (h x (by simp)))]
    rfl
  | x, y :: l, h => by
    show splitV 10 (lineT x ++ 10 :: joinL (y :: l)) = _
    rw [splitV_app (line_no10 (h x (by simp))), split_join y l fun z hz => h z (by simp [hz])]
    rfl
theorem index_syms (W : Bs) : ∀ (l : List Sym), (∀ y ∈ l, isLab y.name = true) → Lib.index (10 :: (symsT l ++ (codeB ++ W))) SEP = ((symsT l).length : Int)
  | [], _ => by
    show Lib.index (10 :: (codeB ++ W)) SEP = 0
    unfold Lib.index
    rw [if_pos]
    unfold SEP codeB
    simp
  | x :: l, h => by
    have ih := index_syms W l fun y hy => h y (by simp [hy])
    have e : symsT (x :: l) ++ (codeB ++ W) = lineT x ++ (10 :: (symsT l ++ (codeB ++ W))) := by
      unfold symsT
      rw [List.flatMap_cons, symT_line]
      simp
    have e2 : (symsT (x :: l)).length = (lineT x).length + 1 + (symsT l).length := by
      unfold symsT
      rw [List.flatMap_cons, symT_line]
      simp
      omega
    rw [e, e2]
    have hs := index_skip (s := [99, 111, 100, 101, 10]) (line_no10 (h x (by simp))) ih
    unfold Lib.index
    have hx : SEP.isPrefixOf (10 :: (lineT x ++ 10 :: (symsT l ++ (codeB ++ W)))) = false := by
      have : ((111 : UInt8) == dig x.place 6) = false := by rw [beq_eq_false_iff_ne]; exact fun e => (dig_all x.place 6).2.2.2.2 e.symm
      unfold SEP lineT hex8
      simp [List.isPrefixOf, this]
    rw [hx]
    show (if false = true then (0 : Int) else if Lib.index _ (10 :: [99, 111, 100, 101, 10]) == -1 then -1 else Lib.index _ (10 :: [99, 111, 100, 101, 10]) + 1) = _
    rw [hs]
    have : ((((lineT x).length + (symsT l).length : Nat) : Int) == -1) = false := by rw [beq_eq_false_iff_ne]; omega
    rw [this]
    simp
    omega
/-- the first line of a text, without its line feed -/
def headL (m : Int) : Bs := [105, 109, 97, 103, 101, 32] ++ Lib.itoa m
theorem head_no10 {m : Int} (h : 0 ≤ m) : ∀ c ∈ headL m, c ≠ 10 := by
  intro c hc
  unfold headL at hc
  rcases List.mem_append.1 hc with hc | hc
  · simp only [List.mem_cons, List.not_mem_nil, or_false] at hc
    rcases hc with rfl | rfl | rfl | rfl | rfl | rfl <;> decide
  · have := itoa_bytes h c hc
    rintro rfl
    have e : (10 : UInt8).toNat = 10 := rfl
    omega
def aheadT (m : Img) : Bs := match m.syms with
  | [] => headL m.mem
  | x :: l => headL m.mem ++ 10 :: joinL (x :: l)
theorem body_ahead (m : Img) : body m = aheadT m ++ (SEP ++ wordsT 0 m.words) := by
  unfold body aheadT headB headL SEP codeB
  cases h : m.syms with
  | nil => simp [symsT]
  | cons x l =>
    rw [symsT_join]
    simp
theorem cut_body {m : Img} (hm : 0 ≤ m.mem) (hl : ∀ y ∈ m.syms, isLab y.name = true) : Lib.cut (body m) SEP = (aheadT m, wordsT 0 m.words, true) := by
  rw [body_ahead]
  refine cut_at ?_
  rw [← body_ahead]
  have e : body m = headL m.mem ++ (10 :: (symsT m.syms ++ (codeB ++ wordsT 0 m.words))) := by
    unfold body headB headL
    simp
  have hs := index_skip (s := [99, 111, 100, 101, 10]) (head_no10 hm) (index_syms (wordsT 0 m.words) m.syms hl)
  rw [e]
  show Lib.index _ (10 :: [99, 111, 100, 101, 10]) = _
  rw [hs]
  unfold aheadT
  cases h : m.syms with
  | nil => simp [symsT]
  | cons x l =>
    rw [symsT_join]
    simp
theorem fields_words : ∀ (l : List Int) (i : Nat), fieldsG [] (wordsT i l) = l.map hex8
  | [], i => rfl
  | w :: r, i => by
    rw [wordsT, fieldsG_word _ _ _ fun x hx => (hex8_all hx).1]
    show fieldsG (hex8 w) _ = _
    rw [fieldsG, if_pos (by split <;> decide), if_neg (by unfold hex8; simp), fields_words r (i + 1)]
    rfl
theorem asc_words : ∀ (l : List Int) (i : Nat), asc (wordsT i l)
  | [], i => fun c hc => by cases hc
  | w :: r, i => fun c hc => by
    rw [wordsT] at hc
    rcases List.mem_append.1 hc with hc | hc
    · exact (hex8_all hc).2.1
    · rcases List.mem_cons.1 hc with rfl | hc
      · split <;> decide
      · exact asc_words r (i + 1) c hc
theorem trim_head (m : Int) : Lib.trimPrefix (headL m) [105, 109, 97, 103, 101, 32] = Lib.itoa m := by
  unfold Lib.trimPrefix Lib.hasPrefix headL
  simp
theorem read_back {m m' : Img} (hr : right m' = true) (h : ReadOf (body m') m) : m = m' := by
  obtain ⟨g1, g2, g3, g4, g5, g6⟩ := right_parts hr
  have hl : ∀ y ∈ m'.syms, isLab y.name = true := fun y hy => (right_name hr hy).1
  have hpl : ∀ y ∈ m'.syms, 0 ≤ y.place ∧ y.place ≤ 4294967295 := fun y hy => by
    have := of_decide_eq_true (right_name hr hy).2
    omega
  have hc := cut_body g3 hl
  obtain ⟨h1, h2, h3⟩ := h
  rw [hc] at h1 h2 h3
  have w1 := h1 (asc_words _ _)
  rw [fields_words, List.map_map] at w1
  have w2 : m'.words.map (numV ∘ hex8) = m'.words := by
    conv => rhs; rw [← List.map_id m'.words]
    refine List.map_congr_left fun x hx => ?_
    have := of_decide_eq_true (g5 x hx)
    exact numV_hex8 this.1 this.2
  have hnl := head_no10 g3
  obtain ⟨ws, mm, ss⟩ := m
  obtain ⟨ws', mm', ss'⟩ := m'
  simp only at *
  rw [w2] at w1
  subst w1
  cases ss' with
  | nil =>
    have hca : Lib.cut (headL mm') [10] = (headL mm', [], false) := cut_not hnl
    rw [show aheadT ⟨ws, mm', []⟩ = headL mm' from rfl, hca] at h2 h3
    rw [show (if (headL mm', ([] : Bs), false).2.2 = true then _ else ([] : List Sym)) = [] from rfl] at h3
    rw [h3, h2 mm' (by rw [show (headL mm', ([] : Bs), false).1 = headL mm' from rfl, trim_head]; exact atoi_itoa g3 g4)]
  | cons x l =>
    have hca : Lib.cut (headL mm' ++ 10 :: joinL (x :: l)) [10] = (headL mm', joinL (x :: l), true) := cut_one hnl
    rw [show aheadT ⟨ws, mm', x :: l⟩ = headL mm' ++ 10 :: joinL (x :: l) from rfl, hca] at h2 h3
    rw [show (if (headL mm', joinL (x :: l), true).2.2 = true then (splitV 10 (headL mm', joinL (x :: l), true).2.1).map symV else ([] : List Sym)) = (splitV 10 (joinL (x :: l))).map symV from rfl, split_join x l hl, List.map_map] at h3
    have h4 : (x :: l).map (symV ∘ lineT) = x :: l := by
      conv => rhs; rw [← List.map_id (x :: l)]
      exact List.map_congr_left fun y hy => symV_line (hpl y hy).1 (hpl y hy).2
    rw [h4] at h3
    rw [h3, h2 mm' (by rw [show (headL mm', joinL (x :: l), true).1 = headL mm' from rfl, trim_head]; exact atoi_itoa g3 g4)]
end Go.Proofs.YtbfmlbcjggplgaaGreatDoor.Im
