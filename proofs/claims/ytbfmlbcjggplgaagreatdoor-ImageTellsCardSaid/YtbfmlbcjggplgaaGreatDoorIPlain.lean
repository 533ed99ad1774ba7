/- Images, their sums and their texts, in plain words. -/
import Derived.Lib.Hide
import Derived.Lib.Strings
import Derived.Lib.IndexMore
import Derived.Lib.ItoaNum
import Derived.Lib.AtoiAll
namespace Go.Proofs.YtbfmlbcjggplgaaGreatDoor.Im
abbrev Bs := List UInt8
def str (l : Bs) : ByteArray := ⟨l.toArray⟩
theorem str_list (l : Bs) : (str l).data.toList = l := by simp [str]
theorem str_size (l : Bs) : (str l).size = l.length := by simp [str, ByteArray.size]
theorem size_list (s : ByteArray) : s.data.toList.length = s.size := by simp
theorem str_of (s : ByteArray) : str s.data.toList = s := by
  obtain ⟨⟨l⟩⟩ := s
  simp [str]
theorem str_inj {a b : Bs} (h : str a = str b) : a = b := by
  have := congrArg (fun s : ByteArray => s.data.toList) h
  simpa [str_list] using this
structure Sym where
  name : ByteArray
  place : Int
deriving DecidableEq
structure Img where
  words : List Int
  mem : Int
  syms : List Sym
def empty : Img := ⟨[], 0, []⟩
/-- does a text stand ahead of another, byte by byte? -/
def hexd (n : Nat) : UInt8 := if n < 10 then UInt8.ofNat (48 + n) else UInt8.ofNat (87 + n)
/-- the digit of the place j from the right -/
def dig (n : Int) (j : Nat) : UInt8 := hexd ((n / 16 ^ j) % 16).toNat
def hex8 (n : Int) : Bs := [dig n 7, dig n 6, dig n 5, dig n 4, dig n 3, dig n 2, dig n 1, dig n 0]
theorem hex8_len (n : Int) : (hex8 n).length = 8 := rfl
def adStep (p : Nat × Nat) (c : UInt8) : Nat × Nat := ((p.1 + c.toNat) % 65521, (p.2 + (p.1 + c.toNat) % 65521) % 65521)
def adler (l : Bs) : Nat × Nat := l.foldl adStep (1, 0)
def sumOf (l : Bs) : Nat := (adler l).2 * 65536 + (adler l).1
theorem adler_snoc (l : Bs) (c : UInt8) : adler (l ++ [c]) = adStep (adler l) c := by
  unfold adler
  rw [List.foldl_append]
  rfl
theorem foldl_lt : ∀ (l : Bs) (p : Nat × Nat), p.1 < 65521 → p.2 < 65521 → (l.foldl adStep p).1 < 65521 ∧ (l.foldl adStep p).2 < 65521 := by
  intro l
  induction l with
  | nil => intro p h1 h2; exact ⟨h1, h2⟩
  | cons c l ih => intro p _ _; exact ih _ (Nat.mod_lt _ (by decide)) (Nat.mod_lt _ (by decide))
theorem adler_lt (l : Bs) : (adler l).1 < 65521 ∧ (adler l).2 < 65521 := foldl_lt l _ (by decide) (by decide)
theorem sumOf_lt (l : Bs) : sumOf l < 4294967296 := by
  have := adler_lt l
  unfold sumOf
  omega
def wordsT : Nat → List Int → Bs
  | _, [] => []
  | i, w :: r => hex8 w ++ ((if i % 8 = 7 ∨ r.length = 0 then 10 else 32) :: wordsT (i + 1) r)
def symT (x : Sym) : Bs := hex8 x.place ++ (32 :: (x.name.data.toList ++ [10]))
def symsT (l : List Sym) : Bs := l.flatMap symT
def headB (m : Int) : Bs := [105, 109, 97, 103, 101, 32] ++ (Lib.itoa m ++ [10])
def codeB : Bs := [99, 111, 100, 101, 10]
def body (m : Img) : Bs := headB m.mem ++ (symsT m.syms ++ (codeB ++ wordsT 0 m.words))
def sumLine (n : Int) : Bs := [115, 117, 109, 32] ++ (hex8 n ++ [10])
theorem sumLine_len (n : Int) : (sumLine n).length = 13 := rfl
def text (m : Img) : Bs := body m ++ sumLine (sumOf (body m))
/-- what a byte tells to the base 16; 99: nothing -/
def hexV (c : UInt8) : Nat := if 48 ≤ c.toNat ∧ c.toNat ≤ 57 then c.toNat - 48 else if 97 ≤ c.toNat ∧ c.toNat ≤ 102 then c.toNat - 87 else if 65 ≤ c.toNat ∧ c.toNat ≤ 70 then c.toNat - 55 else 99
def parse16 (acc : Nat) : Bs → Lib.NumEnd Nat
  | [] => .ok acc
  | c :: r => if hexV c < 16 then if 4294967295 < acc * 16 + hexV c then .range else parse16 (acc * 16 + hexV c) r else Lib.NumEnd.syntax
def numV (s : Bs) : Int := if s = [] then 0 else match parse16 0 s with
  | .ok n => n
  | Lib.NumEnd.syntax => 0
  | .range => 4294967295
theorem parse16_le : ∀ (s : Bs) (acc n : Nat), acc ≤ 4294967295 → parse16 acc s = .ok n → n ≤ 4294967295 := by
  intro s
  induction s with
  | nil =>
    intro acc n h e
    have : acc = n := Lib.NumEnd.ok.inj e
    omega
  | cons c r ih =>
    intro acc n h e
    unfold parse16 at e
    split at e
    · split at e
      · cases e
      · exact ih _ _ (by omega) e
    · cases e
theorem numV_bounds (s : Bs) : 0 ≤ numV s ∧ numV s ≤ 4294967295 := by
  unfold numV
  split
  · omega
  · rcases h : parse16 0 s with n | _ | _
    · have := parse16_le s 0 n (by omega) h; show 0 ≤ (n : Int) ∧ (n : Int) ≤ 4294967295; omega
    · show (0 : Int) ≤ 0 ∧ (0 : Int) ≤ 4294967295; omega
    · show (0 : Int) ≤ 4294967295 ∧ (4294967295 : Int) ≤ 4294967295; omega
def lastB (s : Bs) : Bs := s.drop (s.length - 13)
def lastN (s : Bs) : Int := numV (Lib.trimSuffix (Lib.trimPrefix (lastB s) [115, 117, 109, 32]) [10])
end Go.Proofs.YtbfmlbcjggplgaaGreatDoor.Im
