/-
  Plain mathematics of texts that are cut by any byte.
-/
import Derived.Test.YtbdhdlloihkibaaGreatDoorTextPure
import Derived.Lib.IndexMore
namespace Go.Proofs.YtbdhdlloihkibaaGreatDoor
open Go Go.Lib

def pieces (d : UInt8) : List UInt8 → List (List UInt8)
  | [] => [[]]
  | c :: r => if c = d then [] :: pieces d r else match pieces d r with
    | [] => [[c]]
    | w :: ws => (c :: w) :: ws

theorem pieces_words : ∀ l : List UInt8, pieces 32 l = words l
  | [] => rfl
  | c :: r => by unfold pieces words; rw [pieces_words r]; rfl

theorem pieces_none (d : UInt8) : ∀ a : List UInt8, (∀ c ∈ a, c ≠ d) → pieces d a = [a]
  | [], _ => rfl
  | c :: r, h => by
    have hr := pieces_none d r (fun e he => h e (List.mem_cons_of_mem _ he))
    unfold pieces
    rw [if_neg (h c List.mem_cons_self), hr]

theorem pieces_append (d : UInt8) : ∀ a b : List UInt8, (∀ c ∈ a, c ≠ d) → pieces d (a ++ d :: b) = a :: pieces d b
  | [], b, _ => by simp [pieces]
  | c :: r, b, h => by
    have hr := pieces_append d r b (fun e he => h e (List.mem_cons_of_mem _ he))
    rw [List.cons_append, pieces, if_neg (h c List.mem_cons_self), hr]

theorem pieces_ne (d : UInt8) : ∀ l : List UInt8, pieces d l ≠ []
  | [] => by simp [pieces]
  | c :: r => by
    unfold pieces
    split
    · simp
    · split <;> simp

end Go.Proofs.YtbdhdlloihkibaaGreatDoor
