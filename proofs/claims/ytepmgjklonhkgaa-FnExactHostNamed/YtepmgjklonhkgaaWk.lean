/- The kinds of a world: a host, a letter, a policy, a client, a server, a call, a talk, and a world of such, as plain data, and how each lies in memory. Nothing of the program is named. -/
import Derived.Test.YtepmgjklonhkgaaGe
import Derived.Test.YtepmgjklonhkgaaQl
import Derived.Test.YtepmgjklonhkgaaIn
namespace Go.Proofs.Ytepmgjklonhkgaa
open Go.RowKit Go.Deep

structure Ho where
  name : ByteArray
  key : Int
  lost : Bool
structure Le where
  d : ByteArray
  b : Int
  s : Int
  t : Int
  n : Int
structure Cl where
  st : Int
  h : ByteArray
  mu : Bool
  ep : Int
  bo : Int
  t : Tm
  i : Int
  o : Int
  tl : Bool
  pr : Bool
structure Sv where
  st : Int
  h : ByteArray
  ke : Int
  ep : Int
  t : Tm
  u : Tm
  i : Int
  o : Int
  tl : Bool
  l : List Int
structure Ca where
  k : Int
  c : Cl
  g : Bool
structure Ta where
  k : Int
  s : Sv
instance : Inhabited Ho := ⟨⟨⟨#[]⟩, 0, false⟩⟩
instance : Inhabited Le := ⟨⟨⟨#[]⟩, 0, 0, 0, 0⟩⟩
instance : Inhabited Pol := ⟨⟨⟨#[]⟩, 0, [], 0⟩⟩
instance : Inhabited Cl := ⟨⟨0, ⟨#[]⟩, false, 0, 0, default, 0, 0, false, false⟩⟩
instance : Inhabited Sv := ⟨⟨0, ⟨#[]⟩, 0, 0, default, default, 0, 0, false, []⟩⟩
instance : Inhabited Ca := ⟨⟨0, default, false⟩⟩
instance : Inhabited Ta := ⟨⟨0, default⟩⟩

theorem Ints.carry {w w' : World} {L L' : Nat} {a : Option Addr} {l : List Int} (hL : L' ≤ L) (hc : ∀ b o, L ≤ b → b < w.heap.size → w'.cell? ⟨b, o, none⟩ = w.cell? ⟨b, o, none⟩) (h : Ints w L a l) : Ints w' L' a l := fun k t hk => by
  obtain ⟨b, o, h1, h2, h3⟩ := h k t hk
  exact ⟨b, o, h1, by omega, by rw [hc b _ h2 (lt_of_cell h3)]; exact h3⟩
theorem Txt.carry {w w' : World} {L L' : Nat} {a : Option Addr} {l : List ByteArray} (hL : L' ≤ L) (hc : ∀ b o, L ≤ b → b < w.heap.size → w'.cell? ⟨b, o, none⟩ = w.cell? ⟨b, o, none⟩) (h : Txt w L a l) : Txt w' L' a l := fun k t hk => by
  obtain ⟨b, o, h1, h2, h3⟩ := h k t hk
  exact ⟨b, o, h1, by omega, by rw [hc b _ h2 (lt_of_cell h3)]; exact h3⟩

def hoAt (_ : World) (_ : Nat) (x : Ho) (cs : List Value) : Prop := cs = [.string x.name, .int .i64 x.key, .bool x.lost] ∧ x.name.size ≤ maxLen
def hoK : Kd Ho where
  n := 3
  at_ := hoAt
  pos := by omega
  len := by rintro w L x cs ⟨rfl, _⟩; rfl
  one := by rintro w L x cs ⟨rfl, _⟩; simp [Value.oneCell']
  carry := by rintro w w' L L' x cs _ _ h; exact h
def leAt (_ : World) (_ : Nat) (x : Le) (cs : List Value) : Prop := cs = [.string x.d, .int .i64 x.b, .int .i64 x.s, .int .i64 x.t, .int .i64 x.n] ∧ x.d.size ≤ maxLen
def leK : Kd Le where
  n := 5
  at_ := leAt
  pos := by omega
  len := by rintro w L x cs ⟨rfl, _⟩; rfl
  one := by rintro w L x cs ⟨rfl, _⟩; simp [Value.oneCell']
  carry := by rintro w w' L L' x cs _ _ h; exact h
def poAt (w : World) (L : Nat) (x : Pol) (cs : List Value) : Prop := polFit x ∧ ∃ a cap, cs = polCells x a cap ∧ Txt w L a x.l
def poK : Kd Pol where
  n := 4
  at_ := poAt
  pos := by omega
  len := by rintro w L x cs ⟨_, a, cap, rfl, _⟩; rfl
  one := by rintro w L x cs ⟨_, a, cap, rfl, _⟩; simp [polCells, Value.oneCell']
  carry := by rintro w w' L L' x cs hL hc ⟨h1, a, cap, rfl, h2⟩; exact ⟨h1, a, cap, rfl, h2.carry hL hc⟩
def tmK : Kd Tm where
  n := 4
  at_ := Lies
  pos := by omega
  len := fun h => h.length
  one := by
    intro w L x cs h
    obtain ⟨op, n, s, a, len, cap, rfl⟩ := h.cells
    simp [tmCells, Value.oneCell']
  carry := fun hL hc h => Lies.carry hL hc _ _ h
theorem tmK_all {w : World} {L : Nat} {a : Option Addr} {P : List Tm} (h : tmK.Ls w L a P) : LiesAll w L a 0 P := LiesAll.mk fun k t hk => by
  obtain ⟨b, o, cs, h1, h2, h3, h4⟩ := h k t hk
  exact ⟨b, o, cs, h1, h2, by rw [Nat.zero_add]; exact h3, h4⟩
theorem tmK_of {w : World} {L : Nat} {a : Option Addr} {P : List Tm} (h : LiesAll w L a 0 P) : tmK.Ls w L a P := fun k t hk => by
  obtain ⟨b, o, cs, h1, h2, h3, h4⟩ := h.get hk
  exact ⟨b, o, cs, h1, h2, by rw [Nat.zero_add] at h3; exact h3, h4⟩
theorem poK_pols {w : World} {L : Nat} {a : Option Addr} {P : List Pol} (h : poK.Ls w L a P) : Pols w L a P := fun k p hk => by
  obtain ⟨b, o, cs, h1, h2, h3, _, x, cap, rfl, h5⟩ := h k p hk
  exact ⟨b, o, x, cap, h1, h2, h3, h5⟩
theorem poK_fit {w : World} {L : Nat} {a : Option Addr} {P : List Pol} (h : poK.Ls w L a P) : ∀ p ∈ P, polFit p := fun p hp => by
  obtain ⟨k, hk⟩ := List.getElem?_of_mem hp
  obtain ⟨b, o, cs, _, _, _, h4, _⟩ := h k p hk
  exact h4
def clAt (w : World) (L : Nat) (x : Cl) (cs : List Value) : Prop := x.h.size ≤ maxLen ∧ ∃ op n s a len cap, cs = [.int .i64 x.st, .string x.h, .bool x.mu, .int .i64 x.ep, .int .i64 x.bo, .int .i64 op, .int .i64 n, .string s, .slice a len cap, .int .i64 x.i, .int .i64 x.o, .bool x.tl, .bool x.pr] ∧ Lies w L x.t (tmCells op n s a len cap)
def clK : Kd Cl where
  n := 13
  at_ := clAt
  pos := by omega
  len := by rintro w L x cs ⟨_, op, n, s, a, len, cap, rfl, _⟩; rfl
  one := by rintro w L x cs ⟨_, op, n, s, a, len, cap, rfl, _⟩; simp [Value.oneCell']
  carry := by rintro w w' L L' x cs hL hc ⟨h1, op, n, s, a, len, cap, rfl, h2⟩; exact ⟨h1, op, n, s, a, len, cap, rfl, Lies.carry hL hc _ _ h2⟩
def svAt (w : World) (L : Nat) (x : Sv) (cs : List Value) : Prop := x.h.size ≤ maxLen ∧ x.l.length ≤ maxLen ∧ ∃ op n s a len cap oq m r c lem cat g gc, cs = [.int .i64 x.st, .string x.h, .int .i64 x.ke, .int .i64 x.ep, .int .i64 op, .int .i64 n, .string s, .slice a len cap, .int .i64 oq, .int .i64 m, .string r, .slice c lem cat, .int .i64 x.i, .int .i64 x.o, .bool x.tl, .slice g x.l.length gc] ∧ Lies w L x.t (tmCells op n s a len cap) ∧ Lies w L x.u (tmCells oq m r c lem cat) ∧ Ints w L g x.l
def svK : Kd Sv where
  n := 16
  at_ := svAt
  pos := by omega
  len := by rintro w L x cs ⟨_, _, op, n, s, a, len, cap, oq, m, r, c, lem, cat, g, gc, rfl, _⟩; rfl
  one := by rintro w L x cs ⟨_, _, op, n, s, a, len, cap, oq, m, r, c, lem, cat, g, gc, rfl, _⟩; simp [Value.oneCell']
  carry := by
    rintro w w' L L' x cs hL hc ⟨h1, h2, op, n, s, a, len, cap, oq, m, r, c, lem, cat, g, gc, rfl, h3, h4, h5⟩
    exact ⟨h1, h2, op, n, s, a, len, cap, oq, m, r, c, lem, cat, g, gc, rfl, Lies.carry hL hc _ _ h3, Lies.carry hL hc _ _ h4, h5.carry hL hc⟩
def caAt (w : World) (L : Nat) (x : Ca) (cs : List Value) : Prop := ∃ cc, cs = .int .i64 x.k :: (cc ++ [.bool x.g]) ∧ clAt w L x.c cc
def caK : Kd Ca where
  n := 15
  at_ := caAt
  pos := by omega
  len := by rintro w L x cs ⟨cc, rfl, h⟩; have := clK.len h; simp only [List.length_cons, List.length_append, this, List.length_nil]; rfl
  one := by
    rintro w L x cs ⟨cc, rfl, h⟩ v hv
    have := clK.one h
    simp only [List.mem_cons, List.mem_append, List.not_mem_nil, or_false] at hv
    rcases hv with rfl | hv | rfl
    · rfl
    · exact this v hv
    · rfl
  carry := by rintro w w' L L' x cs hL hc ⟨cc, rfl, h⟩; exact ⟨cc, rfl, clK.carry hL hc h⟩
def taAt (w : World) (L : Nat) (x : Ta) (cs : List Value) : Prop := ∃ cc, cs = .int .i64 x.k :: cc ∧ svAt w L x.s cc
def taK : Kd Ta where
  n := 17
  at_ := taAt
  pos := by omega
  len := by rintro w L x cs ⟨cc, rfl, h⟩; have := svK.len h; simp only [List.length_cons, this]; rfl
  one := by
    rintro w L x cs ⟨cc, rfl, h⟩ v hv
    have := svK.one h
    simp only [List.mem_cons] at hv
    rcases hv with rfl | hv
    · rfl
    · exact this v hv
  carry := by rintro w w' L L' x cs hL hc ⟨cc, rfl, h⟩; exact ⟨cc, rfl, svK.carry hL hc h⟩
def clw (x : Cl) : Nat := x.h.size + x.t.wt
def svw (x : Sv) : Nat := x.h.size + (x.t.wt + (x.u.wt + x.l.length))

/-- A world as plain data. -/
structure Wd where
  time : Int
  fresh : Int
  known : List Tm
  cache : List Pol
  hosts : List Ho
  letters : List Le
  book : ByteArray
  sure : Int
  calls : List Ca
  talks : List Ta
  told : List Int

end Go.Proofs.Ytepmgjklonhkgaa
