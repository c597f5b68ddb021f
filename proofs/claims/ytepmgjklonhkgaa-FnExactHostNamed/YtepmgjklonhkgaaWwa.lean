/- A world as plain data in memory: its eleven cells, the lists that they lead to; what it weighs. -/
import Derived.Test.YtepmgjklonhkgaaWhs
import Derived.Test.YtepmgjklonhkgaaWls
import Derived.Test.YtepmgjklonhkgaaWp
import Derived.Test.YtepmgjklonhkgaaWcs
import Derived.Test.YtepmgjklonhkgaaWts
import Derived.Test.YtepmgjklonhkgaaEq
namespace Go.Proofs.Ytepmgjklonhkgaa
open Go.RowKit Go.Deep

/-- No list of it is longer than Go takes one, nor its book. -/
def wdFit (X : Wd) : Prop := X.known.length ≤ maxLen ∧ X.cache.length ≤ maxLen ∧ X.hosts.length ≤ maxLen ∧ X.letters.length ≤ maxLen ∧ X.calls.length ≤ maxLen ∧ X.talks.length ≤ maxLen ∧ X.told.length ≤ maxLen ∧ X.book.size ≤ maxLen
/-- A world lies in memory: these are its cells. -/
def wdAt (w : World) (L : Nat) (X : Wd) (cs : List Value) : Prop := wdFit X ∧ ∃ ak ck ac cc ah ch al cl aa ca az cz ai ci, cs = [.int .i64 X.time, .int .i64 X.fresh, .slice ak X.known.length ck, .slice ac X.cache.length cc, .slice ah X.hosts.length ch, .slice al X.letters.length cl, .string X.book, .int .i64 X.sure, .slice aa X.calls.length ca, .slice az X.talks.length cz, .slice ai X.told.length ci] ∧ tmK.Ls w L ak X.known ∧ poK.Ls w L ac X.cache ∧ hoK.Ls w L ah X.hosts ∧ leK.Ls w L al X.letters ∧ caK.Ls w L aa X.calls ∧ taK.Ls w L az X.talks ∧ Ints w L ai X.told
def wdK : Kd Wd where
  n := 11
  at_ := wdAt
  pos := by omega
  len := by rintro w L X cs ⟨_, ak, ck, ac, cc, ah, ch, al, cl, aa, ca, az, cz, ai, ci, rfl, _⟩; rfl
  one := by rintro w L X cs ⟨_, ak, ck, ac, cc, ah, ch, al, cl, aa, ca, az, cz, ai, ci, rfl, _⟩; simp [Value.oneCell']
  carry := by
    rintro w w' L L' X cs hL hc ⟨h, ak, ck, ac, cc, ah, ch, al, cl, aa, ca, az, cz, ai, ci, rfl, h0, h1, h2, h3, h4, h5, h6⟩
    exact ⟨h, ak, ck, ac, cc, ah, ch, al, cl, aa, ca, az, cz, ai, ci, rfl, h0.carry hL hc, h1.carry hL hc, h2.carry hL hc, h3.carry hL hc, h4.carry hL hc, h5.carry hL hc, h6.carry hL hc⟩
/-- What a world weighs. -/
def ww (X : Wd) : Nat := (X.known.length + Tm.wts X.known) + ((X.cache.length + ws pw X.cache) + ((X.hosts.length + ws how X.hosts) + ((X.letters.length + ws lew X.letters) + (X.book.size + ((X.calls.length + ws caw X.calls) + ((X.talks.length + ws taw X.talks) + (X.told.length)))))))
theorem Ints.set {w : World} {L b j : Nat} {v : Value} {a : Option Addr} {l : List Int} (h : Ints w L a l) (hb : b < L) : Ints (w.setCell ⟨b, j, none⟩ v) L a l := h.carry (Nat.le_refl _) (fun _ _ _ _ => cell_set_other (by omega))
theorem Ints.sets {w : World} {L b j : Nat} {vs : List Value} {a : Option Addr} {l : List Int} (h : Ints w L a l) (hb : b < L) : Ints (w.setCells b j vs) L a l := h.carry (Nat.le_refl _) (fun _ _ _ _ => cell_setCells_far _ _ _ _ _ (by omega))
/-- The lists of terms, as the lists of a kind. -/
theorem szTms (P : List Tm) (a : Option Addr) (cap : Nat) (left : Int) (w : World) (hl : tmK.Ls w 0 a P) (hm : P.length ≤ maxLen) (h0 : 0 ≤ left) (h1 : left ≤ 1048576) :
    Calls Try.prog 9 #[.slice a P.length cap, .int .i64 left] w fun e w' => e = .returned (.int .i64 (szv left (P.length + Tm.wts P))) ∧ Below w.heap.size w w' :=
  szS_any P (fun t _ => sz_calls t) a cap left w (tmK_all hl) hm h0 h1
theorem toTms (P : List Tm) (a : Option Addr) (cap : Nat) (w : World) (hl : tmK.Ls w 0 a P) (hsz : P.length + Tm.wts P ≤ 1048576) :
    Calls Try.prog 16 #[.slice a P.length cap] w fun e w' => e = .returned (.slice (some ⟨w.heap.size, 0, none⟩) P.length P.length) ∧ tmK.Ls w' w.heap.size (some ⟨w.heap.size, 0, none⟩) P ∧ Below w.heap.size w w' :=
  (toS_any P (fun t _ => to_calls t) a cap w (tmK_all hl) (by have := Tm.sizes_le P; omega)).mono fun _ _ ⟨h1, h2, h3⟩ => ⟨h1, tmK_of h2, h3⟩
theorem eqTms (P : List Tm) (a a' : Option Addr) (c c' : Nat) (w : World) (hl : P.length + Tm.wts P ≤ 1048576) (h : tmK.Ls w 0 a P) (h' : tmK.Ls w 0 a' P) :
    Calls Try.prog 24 #[.slice a P.length c, .slice a' P.length c'] w fun e w' => e = .returned (.bool true) ∧ Below w.heap.size w w' :=
  eqS_any P (fun t _ => eq_calls t) a a' c c' w (tmK_all h) (tmK_all h') (by unfold maxLen; omega)
theorem szIs (P : List Int) (a : Option Addr) (cap : Nat) (left : Int) (w : World) (hm : P.length ≤ maxLen) (h0 : 0 ≤ left) (h1 : left ≤ 1048576) :
    Calls Try.prog 15 #[.slice a P.length cap, .int .i64 left] w fun e w' => e = .returned (.int .i64 (szv left P.length)) ∧ Below w.heap.size w w' :=
  (szI P a cap left w hm h0 h1).mono fun _ _ ⟨h1, h2⟩ => ⟨h1, by rw [h2]; exact Below.refl _ _⟩

end Go.Proofs.Ytepmgjklonhkgaa
