
/- CertOf and CertGood of both sides, by what the term is: contracts for a law. CertOf and CertGood of both sides, told alike: what the two answer at one term, for the law FnCerts. The walk of laws.FnCerts: by a drawn code it answers true; nothing that was there is written. -/
import Derived.Test.YtnnneeaapahgaaaGreatDoorLcg
import Derived.Test.YtnnneeaapahgaaaGreatDoorSw
import Derived.Test.YtnnneeaapahgaaaGreatDoorDg
import Derived.Deep.RegionHeld3
import Derived.Deep.RegionWith
namespace Go.Proofs.YtnnneeaapahgaaaGreatDoor
open Go.RowKit Go.Deep

/-- The term is that of a certificate for this host, which has not ended. -/
def GoodP (t : Tm) (hs : ByteArray) (m : Int) (p : Tm) : Prop := ∃ v, CP t hs p v ∧ ¬ v < m

theorem six_yes {t : Tm} {h : ByteArray} {p : Tm} {v : Int} (c : CP t h p v) (op n : Int) (s : ByteArray) (a : Option Addr) (len cap : Nat) (w : World) (hl : Lies w 0 t (tmCells op n s a len cap)) (hz : t.size ≤ 2097152) (W : World) (hW : Below w.heap.size w W) :
    Calls Tryz.prog 17 #[.agg #[.int .i64 op, .int .i64 n, .string s, .slice a len cap]] W fun e w' => Below W.heap.size W w' ∧ ∃ op n s a len cap, e = .returned (.tuple #[.agg #[.string h, .int .i64 op, .int .i64 n, .string s, .slice a len cap, .int .i64 v], .bool true]) ∧ Lies w' W.heap.size p (tmCells op n s a len cap) := by
  refine (ofS6 t op n s a len cap W (hl.below hW) hz).mono ?_
  rintro e w' ⟨hb, ⟨h1, p1, v1, o1, n1, s1, a1, l1, c1, cc, he, hL⟩ | ⟨hno, _⟩⟩
  · obtain ⟨rfl, rfl, rfl⟩ := c.one cc
    exact ⟨hb, o1, n1, s1, a1, l1, c1, he, hL⟩
  · exact absurd ⟨h, p, v, c⟩ hno
theorem six_no {t : Tm} (hc : ¬ ∃ h p v, CP t h p v) (op n : Int) (s : ByteArray) (a : Option Addr) (len cap : Nat) (w : World) (hl : Lies w 0 t (tmCells op n s a len cap)) (hz : t.size ≤ 2097152) (W : World) (hW : Below w.heap.size w W) :
    Calls Tryz.prog 17 #[.agg #[.int .i64 op, .int .i64 n, .string s, .slice a len cap]] W fun e w' => Below W.heap.size W w' ∧ e = .returned (.tuple #[zeroC, .bool false]) := by
  refine (ofS6 t op n s a len cap W (hl.below hW) hz).mono ?_
  rintro e w' ⟨hb, ⟨h1, p1, v1, o1, n1, s1, a1, l1, c1, cc, he, hL⟩ | ⟨_, he⟩⟩
  · exact absurd ⟨h1, p1, v1, cc⟩ hc
  · exact ⟨hb, he⟩
theorem read_got {t : Tm} {h : ByteArray} {p : Tm} {v : Int} (c : CP t h p v) (op n : Int) (s : ByteArray) (a : Option Addr) (len cap : Nat) (w : World) (hl : Lies w 0 t (tmCells op n s a len cap)) (hz : t.size ≤ 2097152) (x : Addr) (he : ErrAt x w) (hr : Var12 w) (ht : Tab w) (W : World) (hW : Below w.heap.size w W) :
    Calls Tryz.prog 48 #[.agg #[.int .i64 op, .int .i64 n, .string s, .slice a len cap]] W fun e w' => Below W.heap.size W w' ∧ ∃ op n s a len cap, e = .returned (.tuple #[.agg #[.string h, .int .i64 op, .int .i64 n, .string s, .slice a len cap, .int .i64 v], .nilIface]) ∧ Lies w 0 p (tmCells op n s a len cap) := by
  refine (read26 t op n s a len cap x w W hl hW hz (he.on hW) (hr.on hW) (ht.on hW)).mono ?_
  rintro e w' ⟨hb, ⟨h1, p1, v1, o1, n1, s1, a1, l1, c1, cc, he', hL⟩ | ⟨hno, _⟩⟩
  · obtain ⟨rfl, rfl, rfl⟩ := c.one cc
    exact ⟨hb, o1, n1, s1, a1, l1, c1, he', hL⟩
  · exact absurd ⟨h, p, v, c⟩ hno
theorem read_not {t : Tm} (hc : ¬ ∃ h p v, CP t h p v) (op n : Int) (s : ByteArray) (a : Option Addr) (len cap : Nat) (w : World) (hl : Lies w 0 t (tmCells op n s a len cap)) (hz : t.size ≤ 2097152) (x : Addr) (he : ErrAt x w) (hr : Var12 w) (ht : Tab w) (W : World) (hW : Below w.heap.size w W) :
    Calls Tryz.prog 48 #[.agg #[.int .i64 op, .int .i64 n, .string s, .slice a len cap]] W fun e w' => Below W.heap.size W w' ∧ e = .returned (.tuple #[zeroC, .iface 174 (.pointer (some x))]) := by
  refine (read26 t op n s a len cap x w W hl hW hz (he.on hW) (hr.on hW) (ht.on hW)).mono ?_
  rintro e w' ⟨hb, ⟨h1, p1, v1, o1, n1, s1, a1, l1, c1, cc, he', hL⟩ | ⟨_, he'⟩⟩
  · exact absurd ⟨h1, p1, v1, cc⟩ hc
  · exact ⟨hb, he'⟩

/-- spec.CertGood where it is good. -/
theorem good12_yes (t : Tm) (hs : ByteArray) (m : Int) (op n : Int) (s : ByteArray) (a : Option Addr) (len cap : Nat) (w : World) (hl : Lies w 0 t (tmCells op n s a len cap)) (hz : t.size ≤ 2097152) (p : Tm) (hg : GoodP t hs m p) :
    Calls Tryz.prog 21 #[.agg #[.int .i64 op, .int .i64 n, .string s, .slice a len cap], .string hs, .int .i64 m] w fun e w' => ∃ op n s a len cap, e = .returned (.tuple #[.agg #[.int .i64 op, .int .i64 n, .string s, .slice a len cap], .bool true]) ∧ Lies w' w.heap.size p (tmCells op n s a len cap) ∧ Below w.heap.size w w' := by
  obtain ⟨v, c, hv⟩ := hg
  exact goodS_yes op n s a len cap hs m w hs p v rfl hv (six_yes c op n s a len cap w hl hz)
/-- spec.CertGood where it is not. -/
theorem good12_no (t : Tm) (hs : ByteArray) (m : Int) (op n : Int) (s : ByteArray) (a : Option Addr) (len cap : Nat) (w : World) (hl : Lies w 0 t (tmCells op n s a len cap)) (hz : t.size ≤ 2097152) (hg : ¬ ∃ p, GoodP t hs m p) :
    Calls Tryz.prog 21 #[.agg #[.int .i64 op, .int .i64 n, .string s, .slice a len cap], .string hs, .int .i64 m] w fun e w' => e = .returned (.tuple #[.agg #[.int .i64 0, .int .i64 0, .string ByteArray.empty, .slice none 0 0], .bool false]) ∧ Below w.heap.size w w' := by
  by_cases hc : ∃ h p v, CP t h p v
  · obtain ⟨h, p, v, c⟩ := hc
    by_cases hh : h = hs
    · by_cases hm : v < m
      · exact goodS_no3 op n s a len cap hs m w h p v hh hm (six_yes c op n s a len cap w hl hz)
      · exact absurd ⟨p, v, hh ▸ c, hm⟩ hg
    · exact goodS_no2 op n s a len cap hs m w h p v hh (six_yes c op n s a len cap w hl hz)
  · exact goodS_no1 op n s a len cap hs m w (six_no hc op n s a len cap w hl hz)
/-- impl.CertGood where it is good. -/
theorem good11_yes (t : Tm) (hs : ByteArray) (m : Int) (op n : Int) (s : ByteArray) (a : Option Addr) (len cap : Nat) (w : World) (hl : Lies w 0 t (tmCells op n s a len cap)) (hz : t.size ≤ 2097152) (x : Addr) (he : ErrAt x w) (hr : Var12 w) (ht : Tab w) (p : Tm) (hg : GoodP t hs m p) :
    Calls Tryz.prog 22 #[.agg #[.int .i64 op, .int .i64 n, .string s, .slice a len cap], .string hs, .int .i64 m] w fun e w' => ∃ op n s a len cap fp, e = .returned (.tuple #[.agg #[.int .i64 op, .int .i64 n, .string s, .slice a len cap], .bool true]) ∧ Own w' p (tmCells op n s a len cap) fp ∧ (fp.Nodup ∧ ∀ y ∈ fp, w.heap.size ≤ y) ∧ Below w.heap.size w w' := by
  obtain ⟨v, c, hv⟩ := hg
  have hp := okT_200 (certB_ok c.2.1).2.2.1
  exact goodI_yes op n s a len cap hs m x w he p (by omega) fun W hW => goodP_yes op n s a len cap hs m x W (he.on hW) hs p v rfl hv (read_got c op n s a len cap W (hl.below hW) hz x (he.on hW) (hr.on hW) (ht.on hW))
/-- impl.CertGood where it is not. -/
theorem good11_no (t : Tm) (hs : ByteArray) (m : Int) (op n : Int) (s : ByteArray) (a : Option Addr) (len cap : Nat) (w : World) (hl : Lies w 0 t (tmCells op n s a len cap)) (hz : t.size ≤ 2097152) (x : Addr) (he : ErrAt x w) (hr : Var12 w) (ht : Tab w) (hg : ¬ ∃ p, GoodP t hs m p) :
    Calls Tryz.prog 22 #[.agg #[.int .i64 op, .int .i64 n, .string s, .slice a len cap], .string hs, .int .i64 m] w fun e w' => e = .returned (.tuple #[.agg #[.int .i64 0, .int .i64 0, .string ByteArray.empty, .slice none 0 0], .bool false]) ∧ Below w.heap.size w w' := by
  refine goodI_no op n s a len cap hs m x w he fun W hW => ?_
  by_cases hc : ∃ h p v, CP t h p v
  · obtain ⟨h, p, v, c⟩ := hc
    have h25 := read_got c op n s a len cap W (hl.below hW) hz x (he.on hW) (hr.on hW) (ht.on hW)
    by_cases hh : h = hs
    · by_cases hm : v < m
      · exact goodP_no3 op n s a len cap hs m x W (he.on hW) h p v hh hm h25
      · exact absurd ⟨p, v, hh ▸ c, hm⟩ hg
    · exact goodP_no2 op n s a len cap hs m x W (he.on hW) h p v hh h25
  · exact goodP_no1 op n s a len cap hs m x W (read_not hc op n s a len cap W (hl.below hW) hz x (he.on hW) (hr.on hW) (ht.on hW))

/-- Both CertOf at a term: one flag, one certificate; where the flag is true the term is that of the certificate. -/
theorem cof_both (X : Tm) (hz : X.size ≤ 61010) : ∃ (O : Bool) (HD : ByteArray) (PD : Tm) (VD : Int), (PD.size ≤ 200 ∧ HD.size ≤ 60) ∧ (O = true → certTm HD PD VD = X) ∧
    Hid (∀ (op n : Int) (s : ByteArray) (a : Option Addr) (len cap : Nat) (x : Addr) (V : World), Lies V 0 X (tmCells op n s a len cap) → ErrAt x V → Var12 V → Tab V →
      Calls Tryz.prog 19 #[.agg #[.int .i64 op, .int .i64 n, .string s, .slice a len cap]] V fun e w' => ∃ op2 n2 s2 a2 len2 cap2, e = .returned (.tuple #[.agg #[.string HD, .int .i64 op2, .int .i64 n2, .string s2, .slice a2 len2 cap2, .int .i64 VD], .bool O]) ∧ Lies w' 0 PD (tmCells op2 n2 s2 a2 len2 cap2) ∧ Below V.heap.size V w') ∧
    Hid (∀ (op n : Int) (s : ByteArray) (a : Option Addr) (len cap : Nat) (V : World), Lies V 0 X (tmCells op n s a len cap) →
      Calls Tryz.prog 17 #[.agg #[.int .i64 op, .int .i64 n, .string s, .slice a len cap]] V fun e w' => ∃ op2 n2 s2 a2 len2 cap2, e = .returned (.tuple #[.agg #[.string HD, .int .i64 op2, .int .i64 n2, .string s2, .slice a2 len2 cap2, .int .i64 VD], .bool O]) ∧ Below V.heap.size V w') := by
  by_cases hc : ∃ h p v, CP X h p v
  · obtain ⟨h, p, v, c⟩ := hc
    obtain ⟨c1, c2, c3⟩ := c
    have ho := certB_ok c2
    refine ⟨true, h, p, v, ⟨okT_200 ho.2.2.1, ho.1.1⟩, fun _ => ?_, ?_, ?_⟩
    · unfold certTm
      rw [c2, c1]
      show certT h p v = certL h p v
      exact certT_laid (by rw [← c1]; exact c3)
    · intro op n s a len cap x V hl he hr ht
      refine (certOfI_yes op n s a len cap x V h p v (by have := okT_200 ho.2.2.1; omega) he fun W hW => (read_got ⟨c1, c2, c3⟩ op n s a len cap W (hl.below hW) (by omega) x (he.on hW) (hr.on hW) (ht.on hW) W (Below.refl _ _)).mono ?_).mono ?_
      · rintro e w' ⟨hb, o1, n1, s1, a1, l1, p1, he', hL⟩
        exact ⟨hb, o1, n1, s1, a1, l1, p1, he', hL.below hb⟩
      · rintro e w' ⟨o1, n1, s1, a1, l1, p1, fp, he', hO, _, hb⟩
        exact ⟨o1, n1, s1, a1, l1, p1, he', hO.lies0, hb⟩
    · intro op n s a len cap V hl
      refine (six_yes ⟨c1, c2, c3⟩ op n s a len cap V hl (by omega) V (Below.refl _ _)).mono ?_
      rintro e w' ⟨hb, o1, n1, s1, a1, l1, p1, he', hL⟩
      exact ⟨o1, n1, s1, a1, l1, p1, he', hb⟩
  · refine ⟨false, ByteArray.empty, .node 0 0 ByteArray.empty [], 0, ⟨by simp [Tm.size, Tm.sizes], by decide⟩, (fun h => by cases h), ?_, ?_⟩
    · intro op n s a len cap x V hl he hr ht
      refine (certOfI_no op n s a len cap x V he fun W hW => read_not hc op n s a len cap W (hl.below hW) (by omega) x (he.on hW) (hr.on hW) (ht.on hW) W (Below.refl _ _)).mono ?_
      rintro e w' ⟨he', hb⟩
      exact ⟨0, 0, ByteArray.empty, none, 0, 0, he', zero_lies _ _, hb⟩
    · intro op n s a len cap V hl
      refine (six_no hc op n s a len cap V hl (by omega) V (Below.refl _ _)).mono ?_
      rintro e w' ⟨hb, he'⟩
      exact ⟨0, 0, ByteArray.empty, none, 0, 0, he', hb⟩

/-- Both CertGood at a term, a host and a time: one flag, one term. -/
theorem good_both (Y : Tm) (hs : ByteArray) (m : Int) (hz : Y.size ≤ 61010) : ∃ (G : Bool) (PG : Tm), PG.size ≤ 200 ∧ ((∃ p, GoodP Y hs m p) ↔ G = true) ∧
    Hid (∀ (op n : Int) (s : ByteArray) (a : Option Addr) (len cap : Nat) (x : Addr) (V : World), Lies V 0 Y (tmCells op n s a len cap) → ErrAt x V → Var12 V → Tab V →
      Calls Tryz.prog 22 #[.agg #[.int .i64 op, .int .i64 n, .string s, .slice a len cap], .string hs, .int .i64 m] V fun e w' => ∃ op2 n2 s2 a2 len2 cap2, e = .returned (.tuple #[.agg #[.int .i64 op2, .int .i64 n2, .string s2, .slice a2 len2 cap2], .bool G]) ∧ Lies w' 0 PG (tmCells op2 n2 s2 a2 len2 cap2) ∧ Below V.heap.size V w') ∧
    Hid (∀ (op n : Int) (s : ByteArray) (a : Option Addr) (len cap : Nat) (V : World), Lies V 0 Y (tmCells op n s a len cap) →
      Calls Tryz.prog 21 #[.agg #[.int .i64 op, .int .i64 n, .string s, .slice a len cap], .string hs, .int .i64 m] V fun e w' => ∃ op2 n2 s2 a2 len2 cap2, e = .returned (.tuple #[.agg #[.int .i64 op2, .int .i64 n2, .string s2, .slice a2 len2 cap2], .bool G]) ∧ Lies w' 0 PG (tmCells op2 n2 s2 a2 len2 cap2) ∧ Below V.heap.size V w') := by
  by_cases hc : ∃ p, GoodP Y hs m p
  · obtain ⟨p, hp⟩ := hc
    obtain ⟨v, c, hv⟩ := hp
    have ho := certB_ok c.2.1
    refine ⟨true, p, okT_200 ho.2.2.1, ⟨fun _ => rfl, fun _ => ⟨p, v, c, hv⟩⟩, ?_, ?_⟩
    · intro op n s a len cap x V hl he hr ht
      refine (good11_yes Y hs m op n s a len cap V hl (by omega) x he hr ht p ⟨v, c, hv⟩).mono ?_
      rintro e w' ⟨o1, n1, s1, a1, l1, p1, fp, he', hO, _, hb⟩
      exact ⟨o1, n1, s1, a1, l1, p1, he', hO.lies0, hb⟩
    · intro op n s a len cap V hl
      refine (good12_yes Y hs m op n s a len cap V hl (by omega) p ⟨v, c, hv⟩).mono ?_
      rintro e w' ⟨o1, n1, s1, a1, l1, p1, he', hL, hb⟩
      exact ⟨o1, n1, s1, a1, l1, p1, he', hL.any (Nat.zero_le _), hb⟩
  · refine ⟨false, .node 0 0 ByteArray.empty [], by simp [Tm.size, Tm.sizes], ⟨fun h => absurd h hc, fun h => by cases h⟩, ?_, ?_⟩
    · intro op n s a len cap x V hl he hr ht
      refine (good11_no Y hs m op n s a len cap V hl (by omega) x he hr ht hc).mono ?_
      rintro e w' ⟨he', hb⟩
      exact ⟨0, 0, ByteArray.empty, none, 0, 0, he', zero_lies _ _, hb⟩
    · intro op n s a len cap V hl
      refine (good12_no Y hs m op n s a len cap V hl (by omega) hc).mono ?_
      rintro e w' ⟨he', hb⟩
      exact ⟨0, 0, ByteArray.empty, none, 0, 0, he', zero_lies _ _, hb⟩

/-- impl.CertGood alone, by whether it is good. -/
theorem good_one (Y : Tm) (hs : ByteArray) (m : Int) (hz : Y.size ≤ 61010) (G : Bool) (hg : (∃ p, GoodP Y hs m p) ↔ G = true) (op n : Int) (s : ByteArray) (a : Option Addr) (len cap : Nat) (x : Addr) (V : World) (hl : Lies V 0 Y (tmCells op n s a len cap)) (he : ErrAt x V) (hr : Var12 V) (ht : Tab V) :
    Calls Tryz.prog 22 #[.agg #[.int .i64 op, .int .i64 n, .string s, .slice a len cap], .string hs, .int .i64 m] V fun e w' => ∃ op2 n2 s2 a2 len2 cap2, e = .returned (.tuple #[.agg #[.int .i64 op2, .int .i64 n2, .string s2, .slice a2 len2 cap2], .bool G]) ∧ Below V.heap.size V w' := by
  obtain ⟨G', PG, _, hg', h1, _⟩ := good_both Y hs m hz
  obtain rfl : G = G' := by
    cases G <;> cases G' <;> simp_all
  refine (h1 op n s a len cap x V hl he hr ht).mono ?_
  rintro e w' ⟨o1, n1, s1, a1, l1, p1, he', _, hb⟩
  exact ⟨o1, n1, s1, a1, l1, p1, he', hb⟩

/-- A drawn certificate that is right: its term, and what is good of it. -/
theorem cert_good {h : ByteArray} {p : Tm} {v : Int} (hd : CertD h p v) (hc : certB h p v = true) : (∃ q, GoodP (certTm h p v) h v q) ∧ (¬ ∃ q, GoodP (certTm h p v) h (v + 1) q) ∧ (¬ ∃ q, GoodP (certTm h p v) ⟨#[122, 122, 46, 122, 122]⟩ 0 q) := by
  have hok := cert_fits hc (by have := hd.2.2.1.2; omega)
  have e : certTm h p v = certL h p v := by
    unfold certTm
    rw [hc]
    show certT h p v = _
    exact certT_laid hok
  have hcp : CP (certL h p v) h p v := ⟨rfl, hc, hok⟩
  rw [e]
  refine ⟨⟨p, v, hcp, by omega⟩, ?_, ?_⟩
  · rintro ⟨q, v', c', hv⟩
    obtain ⟨_, _, rfl⟩ := hcp.one c'
    omega
  · rintro ⟨q, v', c', hv⟩
    exact hd.1 (hcp.one c').1
theorem certTm_zero {h : ByteArray} {p : Tm} {v : Int} (hc : certB h p v = false) : certTm h p v = .node 0 0 ByteArray.empty [] := by
  unfold certTm
  rw [hc]
  rfl

set_option maxRecDepth 100000 in
theorem big_no (a : Option Addr) (len cap : Nat) (w : World) (hb : len ≤ 1048576) :
    Calls Tryz.prog 23 #[.slice a len cap] w fun e w' => e = .returned (.bool false) ∧ w' = w := by
  have c : ¬ (1048576 : Int) < (len : Int) := by omega
  go_enter Tryz.func23, Tryz.ntmps23
  go_wp2_with fail
  go_ret
  exact ⟨rfl, rfl⟩
set_option maxRecDepth 100000 in
theorem big_yes (a : Option Addr) (len cap : Nat) (w : World) (hb : ¬ len ≤ 1048576) :
    Calls Tryz.prog 23 #[.slice a len cap] w fun e w' => e = .returned (.bool true) ∧ w' = w := by
  have c : (1048576 : Int) < (len : Int) := by omega
  go_enter Tryz.func23, Tryz.ntmps23
  go_wp2_with fail
  go_ret
  exact ⟨rfl, rfl⟩
theorem same_self (t : Tm) : sameB t t = true := same_alike.2 rfl
theorem same_yes (t : Tm) (op n : Int) (s : ByteArray) (a : Option Addr) (len cap : Nat) (op' n' : Int) (s' : ByteArray) (a' : Option Addr) (len' cap' : Nat) (w : World) (hl : Lies w 0 t (tmCells op n s a len cap)) (hl' : Lies w 0 t (tmCells op' n' s' a' len' cap')) (hsz : t.size ≤ 2097152) :
    Calls Tryz.prog 28 #[.agg #[.int .i64 op, .int .i64 n, .string s, .slice a len cap], .agg #[.int .i64 op', .int .i64 n', .string s', .slice a' len' cap']] w fun e w' => e = .returned (.bool true) ∧ Below w.heap.size w w' := by
  have h := same15 t t op n s a len cap op' n' s' a' len' cap' w hl hl' hsz
  rw [same_self] at h
  exact h
theorem below_drewC {w v : World} (h : Below w.drew.heap.size w.drew v) : Below w.heap.size w v := ((Below.refl _ _).drew).trans h
theorem Bytes.on {w w' : World} {a : Option Addr} {len : Nat} (h : Bytes w w.heap.size a len) (hb : Below w.heap.size w w') : Bytes w' w'.heap.size a len := h.below hb hb.size

set_option maxRecDepth 100000 in
set_option maxHeartbeats 8000000 in
theorem lawCerts1 (ad : Option Addr) (ln cp : Nat) (w : World) (hB : Bytes w w.heap.size ad ln) (hl : ln ≤ 1048576) (hlc : ln ≤ cp) (x : Addr) (he : ErrAt x w) (hr : Var12 w) (ht : Tab w) :
    Calls Tryz.prog 6 #[.slice ad ln cp] w fun e w' => e = .returned (.bool true) ∧ Below w.heap.size w w' := by
  have hbig := hide (fun v => big_no ad ln cp v hl)
  have HBY := hide hB
  have HE := hide he
  have HR := hide hr
  have HT := hide ht
  have HB0 := hide (Below.refl w.heap.size w)
  clear hB he hr ht
  have K := hide (fun V (hV : Below w.heap.size w V) => draw5 ad ln cp V ((unhide HBY).on hV) hl hlc)
  go_enter Tryz.func6, Tryz.ntmps6
  go_wp2_with fail
  refine (unhide hbig _).mono ?_
  rintro e w0 ⟨rfl, rfl⟩
  go_wp2_with fail
  refine (unhide K _ (Below.refl _ _)).mono ?_
  rintro e w1 ⟨hc, tc, vc, opC, nC, sC, aC, lenC, capC, rfl, hcd, hlp, hb⟩
  have HCD := hide hcd
  have zc : tc.size ≤ 2097152 := by have := hcd.2.2.1.2; omega
  have zh : hc.size ≤ 2097152 := by have := hcd.2.1; omega
  clear K hcd
  have HW1 := hide (btC (Below.refl _ _) hb)
  have HB1 := hide (btC (unhide HB0) (unhide HW1))
  have HLc1 := hide hlp
  clear HW1 hb
  clear hlp
  have K := hide (fun V (hV : Below w1.heap.size w1 V) => certTI tc hc opC nC sC aC lenC capC vc V ((unhide HLc1).below hV) zc zh ((unhide HT).on (btC (unhide HB1) hV)) ⟨x, (unhide HE).on (btC (unhide HB1) hV)⟩)
  go_wp2_with fail
  refine (unhide K _ (ab _)).mono ?_
  rintro e w2 ⟨opT, nT, sT, aT, lenT, capT, ft, rfl, hO, -, hb⟩
  have hL := hO.lies0
  clear K hO
  have HW2 := hide (btC (ab _) hb)
  have HB2 := hide (btC (unhide HB1) (unhide HW2))
  have HLc2 := hide ((unhide HLc1).below (unhide HW2))
  have HXc2 := hide ((RowC.new 33 w1 hc opC nC sC aC lenC capC vc).below hb)
  have HLt2 := hide hL
  clear HW2 HB1 hb HLc1
  clear hL
  have K := hide (fun V (hV : Below w2.heap.size w2 V) => draw7 ad ln cp V ((unhide HBY).on (btC (unhide HB2) hV)) hl hlc)
  go_wp2_with fail
  refine (unhide K _ (ab _)).mono ?_
  rintro e w3 ⟨X, opX, nX, sX, aX, lenX, capX, rfl, ⟨hL, zX⟩, hb⟩
  clear K
  have HW3 := hide (btC (ab _) hb)
  have HB3 := hide (btC (unhide HB2) (unhide HW3))
  have HLc3 := hide ((unhide HLc2).below (unhide HW3))
  have HLt3 := hide ((unhide HLt2).below (unhide HW3))
  have HXc3 := hide ((unhide HXc2).below (unhide HW3))
  have HXt3 := hide ((RowT.new 30 w2 opT nT sT aT lenT capT).below hb)
  have HLx3 := hide hL
  clear HW3 HB2 hb HLc2 HLt2 HXc2
  clear hL
  obtain ⟨O, HD, PD, VD, ⟨zPD, zHD⟩, hOX, FI, FS⟩ := cof_both X zX
  have HOX := hide hOX
  clear hOX
  have K := hide (fun V (hV : Below w3.heap.size w3 V) => unhide FI opX nX sX aX lenX capX x V ((unhide HLx3).below hV) ((unhide HE).on (btC (unhide HB3) hV)) ((unhide HR).on (btC (unhide HB3) hV)) ((unhide HT).on (btC (unhide HB3) hV)))
  go_wp2_with fail
  refine (unhide K _ (ab _)).mono ?_
  rintro e w4 ⟨opD, nD, sD, aD, lenD, capD, rfl, hL, hb⟩
  clear K FI
  have HW4 := hide (btC (ab _) hb)
  have HB4 := hide (btC (unhide HB3) (unhide HW4))
  have HLc4 := hide ((unhide HLc3).below (unhide HW4))
  have HLt4 := hide ((unhide HLt3).below (unhide HW4))
  have HLx4 := hide ((unhide HLx3).below (unhide HW4))
  have HXc4 := hide ((unhide HXc3).below (unhide HW4))
  have HXt4 := hide ((unhide HXt3).below (unhide HW4))
  have HXx4 := hide ((RowT.new 30 w3 opX nX sX aX lenX capX).below hb)
  have HLd4 := hide hL
  clear HW4 HB3 hb HLc3 HLt3 HLx3 HXc3 HXt3
  clear hL
  have K := hide (fun V (hV : Below w4.heap.size w4 V) => unhide FS opX nX sX aX lenX capX V ((unhide HLx4).below hV))
  obtain ⟨x0, x1, x2, x3⟩ := ((unhide HXx4).below (ab (.cells #[.string HD, .int .i64 opD, .int .i64 nD, .string sD, .slice aD lenD capD, .int .i64 VD] 33))).facts
  go_wp2_with fail
  refine (unhide K _ (ab _)).mono ?_
  rintro e w5 ⟨opE, nE, sE, aE, lenE, capE, rfl, hb⟩
  clear K FS
  clear x0 x1 x2 x3
  have HW5 := hide (btC (ab _) hb)
  have HB5 := hide (btC (unhide HB4) (unhide HW5))
  have HLc5 := hide ((unhide HLc4).below (unhide HW5))
  have HLt5 := hide ((unhide HLt4).below (unhide HW5))
  have HLx5 := hide ((unhide HLx4).below (unhide HW5))
  have HLd5 := hide ((unhide HLd4).below (unhide HW5))
  have HXc5 := hide ((unhide HXc4).below (unhide HW5))
  have HXt5 := hide ((unhide HXt4).below (unhide HW5))
  have HXx5 := hide ((unhide HXx4).below (unhide HW5))
  have HXd5 := hide ((RowC.new 33 w4 HD opD nD sD aD lenD capD VD).below hb)
  clear HW5 HB4 hb HLc4 HLt4 HLx4 HLd4 HXc4 HXt4 HXx4
  have K := hide (fun V (hV : Below w5.heap.size w5 V) => draw10 ad ln cp V ((unhide HBY).on (btC (unhide HB5) hV)) hl hlc)
  go_wp2_with fail
  refine (unhide K _ (ab _)).mono ?_
  rintro e w6 ⟨Y, opY, nY, sY, aY, lenY, capY, hy, my, rfl, ⟨hL, zY⟩, hb⟩
  clear K
  have HW6 := hide (btC (ab _) hb)
  have HB6 := hide (btC (unhide HB5) (unhide HW6))
  have HLc6 := hide ((unhide HLc5).below (unhide HW6))
  have HLt6 := hide ((unhide HLt5).below (unhide HW6))
  have HLx6 := hide ((unhide HLx5).below (unhide HW6))
  have HLd6 := hide ((unhide HLd5).below (unhide HW6))
  have HXc6 := hide ((unhide HXc5).below (unhide HW6))
  have HXt6 := hide ((unhide HXt5).below (unhide HW6))
  have HXx6 := hide ((unhide HXx5).below (unhide HW6))
  have HXd6 := hide ((unhide HXd5).below (unhide HW6))
  have HLy6 := hide hL
  clear HW6 HB5 hb HLc5 HLt5 HLx5 HLd5 HXc5 HXt5 HXx5 HXd5
  clear hL
  obtain ⟨G, PG, zPG, -, GI, GS⟩ := good_both Y hy my zY
  have K := hide (fun V (hV : Below w6.heap.size w6 V) => unhide GI opY nY sY aY lenY capY x V ((unhide HLy6).below hV) ((unhide HE).on (btC (unhide HB6) hV)) ((unhide HR).on (btC (unhide HB6) hV)) ((unhide HT).on (btC (unhide HB6) hV)))
  go_wp2_with fail
  refine (unhide K _ (ab _)).mono ?_
  rintro e w7 ⟨opP, nP, sP, aP, lenP, capP, rfl, hL, hb⟩
  clear K GI
  have HW7 := hide (btC (ab _) hb)
  have HB7 := hide (btC (unhide HB6) (unhide HW7))
  have HLc7 := hide ((unhide HLc6).below (unhide HW7))
  have HLt7 := hide ((unhide HLt6).below (unhide HW7))
  have HLx7 := hide ((unhide HLx6).below (unhide HW7))
  have HLd7 := hide ((unhide HLd6).below (unhide HW7))
  have HLy7 := hide ((unhide HLy6).below (unhide HW7))
  have HXc7 := hide ((unhide HXc6).below (unhide HW7))
  have HXt7 := hide ((unhide HXt6).below (unhide HW7))
  have HXx7 := hide ((unhide HXx6).below (unhide HW7))
  have HXd7 := hide ((unhide HXd6).below (unhide HW7))
  have HXy7 := hide ((RowT.new 30 w6 opY nY sY aY lenY capY).below hb)
  have HLp7 := hide hL
  clear HW7 HB6 hb HLc6 HLt6 HLx6 HLd6 HLy6 HXc6 HXt6 HXx6 HXd6
  clear hL
  have K := hide (fun V (hV : Below w7.heap.size w7 V) => unhide GS opY nY sY aY lenY capY V ((unhide HLy7).below hV))
  obtain ⟨y0, y1, y2, y3⟩ := ((unhide HXy7).below (ab (.cells #[.int .i64 opP, .int .i64 nP, .string sP, .slice aP lenP capP] 30))).facts
  go_wp2_with fail
  refine (unhide K _ (ab _)).mono ?_
  rintro e w8 ⟨opQ, nQ, sQ, aQ, lenQ, capQ, rfl, hL, hb⟩
  clear K GS
  clear y0 y1 y2 y3
  have HW8 := hide (btC (ab _) hb)
  have HB8 := hide (btC (unhide HB7) (unhide HW8))
  have HLc8 := hide ((unhide HLc7).below (unhide HW8))
  have HLt8 := hide ((unhide HLt7).below (unhide HW8))
  have HLx8 := hide ((unhide HLx7).below (unhide HW8))
  have HLd8 := hide ((unhide HLd7).below (unhide HW8))
  have HLy8 := hide ((unhide HLy7).below (unhide HW8))
  have HLp8 := hide ((unhide HLp7).below (unhide HW8))
  have HXc8 := hide ((unhide HXc7).below (unhide HW8))
  have HXt8 := hide ((unhide HXt7).below (unhide HW8))
  have HXx8 := hide ((unhide HXx7).below (unhide HW8))
  have HXd8 := hide ((unhide HXd7).below (unhide HW8))
  have HXy8 := hide ((unhide HXy7).below (unhide HW8))
  have HXp8 := hide ((RowT.new 30 w7 opP nP sP aP lenP capP).below hb)
  have HLq8 := hide hL
  clear HW8 HB7 hb HLc7 HLt7 HLx7 HLd7 HLy7 HLp7 HXc7 HXt7 HXx7 HXd7 HXy7
  clear hL
  have K := hide (fun V (hV : Below w8.heap.size w8 V) => draw13 ad ln cp V ((unhide HBY).on (btC (unhide HB8) hV)) hl hlc)
  go_wp2_with fail
  refine (unhide K _ (ab _)).mono ?_
  rintro e w9 ⟨hk, tk, vk, opK, nK, sK, aK, lenK, capK, rfl, hkd, hL, hb⟩
  have zk : tk.size ≤ 2097152 := by have := hkd.2.2.1.2; omega
  have zhk : hk.size ≤ 2097152 := by have := hkd.2.1; omega
  clear K hkd
  have HW9 := hide (btC (ab _) hb)
  have HB9 := hide (btC (unhide HB8) (unhide HW9))
  have HLc9 := hide ((unhide HLc8).below (unhide HW9))
  have HLt9 := hide ((unhide HLt8).below (unhide HW9))
  have HLx9 := hide ((unhide HLx8).below (unhide HW9))
  have HLd9 := hide ((unhide HLd8).below (unhide HW9))
  have HLy9 := hide ((unhide HLy8).below (unhide HW9))
  have HLp9 := hide ((unhide HLp8).below (unhide HW9))
  have HLq9 := hide ((unhide HLq8).below (unhide HW9))
  have HXc9 := hide ((unhide HXc8).below (unhide HW9))
  have HXt9 := hide ((unhide HXt8).below (unhide HW9))
  have HXx9 := hide ((unhide HXx8).below (unhide HW9))
  have HXd9 := hide ((unhide HXd8).below (unhide HW9))
  have HXy9 := hide ((unhide HXy8).below (unhide HW9))
  have HXp9 := hide ((unhide HXp8).below (unhide HW9))
  have HXq9 := hide ((RowT.new 30 w8 opQ nQ sQ aQ lenQ capQ).below hb)
  have HLk9 := hide hL
  clear HW9 HB8 hb HLc8 HLt8 HLx8 HLd8 HLy8 HLp8 HLq8 HXc8 HXt8 HXx8 HXd8 HXy8 HXp8
  clear hL HBY
  have K := hide (fun V (hV : Below w9.heap.size w9 V) => certTS tc hc opC nC sC aC lenC capC vc V ((unhide HLc9).below hV) zc zh)
  obtain ⟨c0, c1, c2, c3, c4, c5⟩ := ((unhide HXc9).below (ab (.cells #[.string hk, .int .i64 opK, .int .i64 nK, .string sK, .slice aK lenK capK, .int .i64 vk] 33))).facts
  obtain ⟨t0, t1, t2, t3⟩ := ((unhide HXt9).below (ab (.cells #[.string hk, .int .i64 opK, .int .i64 nK, .string sK, .slice aK lenK capK, .int .i64 vk] 33))).facts
  go_wp2_with fail
  have HW10 := hide (ab (w := w9) (.cells #[.string hk, .int .i64 opK, .int .i64 nK, .string sK, .slice aK lenK capK, .int .i64 vk] 33))
  have HB10 := hide (btC (unhide HB9) (unhide HW10))
  have HLc10 := hide ((unhide HLc9).below (unhide HW10))
  have HLt10 := hide ((unhide HLt9).below (unhide HW10))
  have HLx10 := hide ((unhide HLx9).below (unhide HW10))
  have HLd10 := hide ((unhide HLd9).below (unhide HW10))
  have HLy10 := hide ((unhide HLy9).below (unhide HW10))
  have HLp10 := hide ((unhide HLp9).below (unhide HW10))
  have HLq10 := hide ((unhide HLq9).below (unhide HW10))
  have HLk10 := hide ((unhide HLk9).below (unhide HW10))
  have HXc10 := hide ((unhide HXc9).below (unhide HW10))
  have HXt10 := hide ((unhide HXt9).below (unhide HW10))
  have HXx10 := hide ((unhide HXx9).below (unhide HW10))
  have HXd10 := hide ((unhide HXd9).below (unhide HW10))
  have HXy10 := hide ((unhide HXy9).below (unhide HW10))
  have HXp10 := hide ((unhide HXp9).below (unhide HW10))
  have HXq10 := hide ((unhide HXq9).below (unhide HW10))
  have HXk10 := hide (RowC.new 33 w9 hk opK nK sK aK lenK capK vk)
  clear c0 c1 c2 c3 c4 c5 t0 t1 t2 t3
  clear K HW10 HB9 HLc9 HLt9 HLx9 HLd9 HLy9 HLp9 HLq9 HLk9 HXc9 HXt9 HXx9 HXd9 HXy9 HXp9 HXq9
  generalize hV : w9.alloc (.cells #[.string hk, .int .i64 opK, .int .i64 nK, .string sK, .slice aK lenK capK, .int .i64 vk] 33) = w10 at *
  generalize w9.heap.size = b9 at *
  generalize w8.heap.size = b8 at *
  generalize w7.heap.size = b7 at *
  generalize w6.heap.size = b6 at *
  generalize w5.heap.size = b5 at *
  generalize w4.heap.size = b4 at *
  generalize w3.heap.size = b3 at *
  generalize w2.heap.size = b2 at *
  generalize w1.heap.size = b1 at *
  clear hV
  have HZT : Hid ((certTm hc tc vc).size ≤ 2097152) := by show _ ≤ _; have := certTm_200 hc tc vc; omega
  have g8 := hide (fun V hl => certTS tc hc opC nC sC aC lenC capC vc V hl zc zh)
  have g28a := hide (same_yes (certTm hc tc vc) opT nT sT aT lenT capT)
  have g28b := hide (same_yes PG opP nP sP aP lenP capP opQ nQ sQ aQ lenQ capQ)
  have g29 := hide (fun V hl => certI tk hk opK nK sK aK lenK capK vk V hl zk zhk)
  have g30 := hide (fun V hl => certS tk hk opK nK sK aK lenK capK vk V hl zk zhk)
  generalize certB hk tk vk = KB at *
  have qO : (O != O) = false := by simp
  have qG : (G != G) = false := by simp
  have qK : (KB != KB) = false := by simp
  obtain ⟨f0_c0, f0_c1, f0_c2, f0_c3, f0_c4, f0_c5⟩ := (unhide HXc10).facts
  obtain ⟨f0_t0, f0_t1, f0_t2, f0_t3⟩ := (unhide HXt10).facts
  obtain ⟨f0_p0, f0_p1, f0_p2, f0_p3⟩ := (unhide HXp10).facts
  obtain ⟨f0_q0, f0_q1, f0_q2, f0_q3⟩ := (unhide HXq10).facts
  obtain ⟨f0_k0, f0_k1, f0_k2, f0_k3, f0_k4, f0_k5⟩ := (unhide HXk10).facts
  go_region_held3 (fun y => y.cell? ⟨b1, 0, none⟩ = some (.string hc) ∧ y.cell? ⟨b1, 1, none⟩ = some (.int .i64 opC) ∧ y.cell? ⟨b1, 2, none⟩ = some (.int .i64 nC) ∧ y.cell? ⟨b1, 3, none⟩ = some (.string sC) ∧ y.cell? ⟨b1, 4, none⟩ = some (.slice aC lenC capC) ∧ y.cell? ⟨b1, 5, none⟩ = some (.int .i64 vc) ∧ y.cell? ⟨b2, 0, none⟩ = some (.int .i64 opT) ∧ y.cell? ⟨b2, 1, none⟩ = some (.int .i64 nT) ∧ y.cell? ⟨b2, 2, none⟩ = some (.string sT) ∧ y.cell? ⟨b2, 3, none⟩ = some (.slice aT lenT capT) ∧ y.cell? ⟨b7, 0, none⟩ = some (.int .i64 opP) ∧ y.cell? ⟨b7, 1, none⟩ = some (.int .i64 nP) ∧ y.cell? ⟨b7, 2, none⟩ = some (.string sP) ∧ y.cell? ⟨b7, 3, none⟩ = some (.slice aP lenP capP) ∧ y.cell? ⟨b8, 0, none⟩ = some (.int .i64 opQ) ∧ y.cell? ⟨b8, 1, none⟩ = some (.int .i64 nQ) ∧ y.cell? ⟨b8, 2, none⟩ = some (.string sQ) ∧ y.cell? ⟨b8, 3, none⟩ = some (.slice aQ lenQ capQ) ∧ y.cell? ⟨b9, 0, none⟩ = some (.string hk) ∧ y.cell? ⟨b9, 1, none⟩ = some (.int .i64 opK) ∧ y.cell? ⟨b9, 2, none⟩ = some (.int .i64 nK) ∧ y.cell? ⟨b9, 3, none⟩ = some (.string sK) ∧ y.cell? ⟨b9, 4, none⟩ = some (.slice aK lenK capK) ∧ y.cell? ⟨b9, 5, none⟩ = some (.int .i64 vk)) (go_keep)
    (first
      | (go_at_call 30
         have qq := C4
         clear qq
         refine (unhide g30 _ ((unhide HLk10).below (unhide C4))).mono ?_
         rintro e y5 ⟨rfl, hb5⟩
         have C5 := hide (btC (unhide C4) hb5)
         clear hb5 f4_c0 f4_c1 f4_c2 f4_c3 f4_c4 f4_c5 f4_t0 f4_t1 f4_t2 f4_t3 f4_p0 f4_p1 f4_p2 f4_p3 f4_q0 f4_q1 f4_q2 f4_q3 f4_k0 f4_k1 f4_k2 f4_k3 f4_k4 f4_k5
         obtain ⟨f5_c0, f5_c1, f5_c2, f5_c3, f5_c4, f5_c5⟩ := ((unhide HXc10).below (unhide C5)).facts
         obtain ⟨f5_t0, f5_t1, f5_t2, f5_t3⟩ := ((unhide HXt10).below (unhide C5)).facts
         obtain ⟨f5_p0, f5_p1, f5_p2, f5_p3⟩ := ((unhide HXp10).below (unhide C5)).facts
         obtain ⟨f5_q0, f5_q1, f5_q2, f5_q3⟩ := ((unhide HXq10).below (unhide C5)).facts
         obtain ⟨f5_k0, f5_k1, f5_k2, f5_k3, f5_k4, f5_k5⟩ := ((unhide HXk10).below (unhide C5)).facts)
      | (go_at_call 29
         have qq := C3
         clear qq
         refine (unhide g29 _ ((unhide HLk10).below (unhide C3))).mono ?_
         rintro e y4 ⟨rfl, hb4⟩
         have C4 := hide (btC (unhide C3) hb4)
         clear hb4 f3_c0 f3_c1 f3_c2 f3_c3 f3_c4 f3_c5 f3_t0 f3_t1 f3_t2 f3_t3 f3_p0 f3_p1 f3_p2 f3_p3 f3_q0 f3_q1 f3_q2 f3_q3 f3_k0 f3_k1 f3_k2 f3_k3 f3_k4 f3_k5
         obtain ⟨f4_c0, f4_c1, f4_c2, f4_c3, f4_c4, f4_c5⟩ := ((unhide HXc10).below (unhide C4)).facts
         obtain ⟨f4_t0, f4_t1, f4_t2, f4_t3⟩ := ((unhide HXt10).below (unhide C4)).facts
         obtain ⟨f4_p0, f4_p1, f4_p2, f4_p3⟩ := ((unhide HXp10).below (unhide C4)).facts
         obtain ⟨f4_q0, f4_q1, f4_q2, f4_q3⟩ := ((unhide HXq10).below (unhide C4)).facts
         obtain ⟨f4_k0, f4_k1, f4_k2, f4_k3, f4_k4, f4_k5⟩ := ((unhide HXk10).below (unhide C4)).facts)
      | (go_at_call 28
         have qq := C2
         clear qq
         refine (unhide g28b _ ((unhide HLp10).below (unhide C2)) ((unhide HLq10).below (unhide C2)) (by omega)).mono ?_
         rintro e y3 ⟨rfl, hb3⟩
         have C3 := hide (btC (unhide C2) hb3)
         clear hb3 f2_c0 f2_c1 f2_c2 f2_c3 f2_c4 f2_c5 f2_t0 f2_t1 f2_t2 f2_t3 f2_p0 f2_p1 f2_p2 f2_p3 f2_q0 f2_q1 f2_q2 f2_q3 f2_k0 f2_k1 f2_k2 f2_k3 f2_k4 f2_k5
         obtain ⟨f3_c0, f3_c1, f3_c2, f3_c3, f3_c4, f3_c5⟩ := ((unhide HXc10).below (unhide C3)).facts
         obtain ⟨f3_t0, f3_t1, f3_t2, f3_t3⟩ := ((unhide HXt10).below (unhide C3)).facts
         obtain ⟨f3_p0, f3_p1, f3_p2, f3_p3⟩ := ((unhide HXp10).below (unhide C3)).facts
         obtain ⟨f3_q0, f3_q1, f3_q2, f3_q3⟩ := ((unhide HXq10).below (unhide C3)).facts
         obtain ⟨f3_k0, f3_k1, f3_k2, f3_k3, f3_k4, f3_k5⟩ := ((unhide HXk10).below (unhide C3)).facts)
      | (go_at_call 28
         have qq := C1
         clear qq
         refine (unhide g28a opZ nZ sZ aZ lenZ capZ _ ((unhide HLt10).below (unhide C1)) (unhide HZ) (unhide HZT)).mono ?_
         rintro e y2 ⟨rfl, hb2⟩
         have C2 := hide (btC (unhide C1) hb2)
         clear hb2 f1_c0 f1_c1 f1_c2 f1_c3 f1_c4 f1_c5 f1_t0 f1_t1 f1_t2 f1_t3 f1_p0 f1_p1 f1_p2 f1_p3 f1_q0 f1_q1 f1_q2 f1_q3 f1_k0 f1_k1 f1_k2 f1_k3 f1_k4 f1_k5
         obtain ⟨f2_c0, f2_c1, f2_c2, f2_c3, f2_c4, f2_c5⟩ := ((unhide HXc10).below (unhide C2)).facts
         obtain ⟨f2_t0, f2_t1, f2_t2, f2_t3⟩ := ((unhide HXt10).below (unhide C2)).facts
         obtain ⟨f2_p0, f2_p1, f2_p2, f2_p3⟩ := ((unhide HXp10).below (unhide C2)).facts
         obtain ⟨f2_q0, f2_q1, f2_q2, f2_q3⟩ := ((unhide HXq10).below (unhide C2)).facts
         obtain ⟨f2_k0, f2_k1, f2_k2, f2_k3, f2_k4, f2_k5⟩ := ((unhide HXk10).below (unhide C2)).facts)
      | (go_at_call 8
         refine (unhide g8 _ ((unhide HLc10).below ((Below.refl _ _).drew))).mono ?_
         rintro e y1 ⟨opZ, nZ, sZ, aZ, lenZ, capZ, rfl, q1, hb1⟩
         have HZ := hide (q1.any (Nat.zero_le _))
         clear q1
         have C1 := hide (below_drewC hb1)
         clear hb1 f0_c0 f0_c1 f0_c2 f0_c3 f0_c4 f0_c5 f0_t0 f0_t1 f0_t2 f0_t3 f0_p0 f0_p1 f0_p2 f0_p3 f0_q0 f0_q1 f0_q2 f0_q3 f0_k0 f0_k1 f0_k2 f0_k3 f0_k4 f0_k5
         obtain ⟨f1_c0, f1_c1, f1_c2, f1_c3, f1_c4, f1_c5⟩ := ((unhide HXc10).below (unhide C1)).facts
         obtain ⟨f1_t0, f1_t1, f1_t2, f1_t3⟩ := ((unhide HXt10).below (unhide C1)).facts
         obtain ⟨f1_p0, f1_p1, f1_p2, f1_p3⟩ := ((unhide HXp10).below (unhide C1)).facts
         obtain ⟨f1_q0, f1_q1, f1_q2, f1_q3⟩ := ((unhide HXq10).below (unhide C1)).facts
         obtain ⟨f1_k0, f1_k1, f1_k2, f1_k3, f1_k4, f1_k5⟩ := ((unhide HXk10).below (unhide C1)).facts))
  clear f5_c0 f5_c1 f5_c2 f5_c3 f5_c4 f5_c5 f5_t0 f5_t1 f5_t2 f5_t3 f5_p0 f5_p1 f5_p2 f5_p3 f5_q0 f5_q1 f5_q2 f5_q3 f5_k0 f5_k1 f5_k2 f5_k3 f5_k4 f5_k5 g8 g28a g28b g29 g30 HZ
  have HB11 := hide (btC (unhide HB10) (unhide C5))
  have HLc11 := hide ((unhide HLc10).below (unhide C5))
  have HXc11 := hide ((unhide HXc10).below (unhide C5))
  have HLt11 := hide ((unhide HLt10).below (unhide C5))
  have HXt11 := hide ((unhide HXt10).below (unhide C5))
  have HLx11 := hide ((unhide HLx10).below (unhide C5))
  have HXx11 := hide ((unhide HXx10).below (unhide C5))
  have HLd11 := hide ((unhide HLd10).below (unhide C5))
  have HXd11 := hide ((unhide HXd10).below (unhide C5))
  clear HB10 C1 C2 C3 C4 C5 HLc10 HLt10 HLx10 HLd10 HLy10 HLp10 HLq10 HLk10 HXc10 HXt10 HXx10 HXd10 HXy10 HXp10 HXq10 HXk10 qO qG qK
  cases O with
  | false =>
    have HB12 := hide ((unhide HB11).drew)
    have HLc12 := hide ((unhide HLc11).below ((Below.refl _ _).drew))
    have HXc12 := hide ((unhide HXc11).below ((Below.refl _ _).drew))
    have HLt12 := hide ((unhide HLt11).below ((Below.refl _ _).drew))
    have HXt12 := hide ((unhide HXt11).below ((Below.refl _ _).drew))
    clear HB11 HLc11 HLt11 HLx11 HLd11 HXc11 HXt11 HXx11 HXd11
    go_wp2_with fail
    first
      | go_region_with fail
      | fail
    all_goals go_wp2_with fail
    all_goals (
      have g29 := hide (fun V hl => certI tc hc opC nC sC aC lenC capC vc V hl zc zh)
      obtain ⟨c0, c1, c2, c3, c4, c5⟩ := (unhide HXc12).facts
      cases hCB : certB hc tc vc with
      | false =>
        have hop : opT = 0 := zero_op (t := certT hc tc vc) (by have := unhide HLt12; unfold certTm at this; rw [hCB] at this; exact this)
        subst hop
        rw [hCB] at g29
        go_wp2_with fail
        refine (unhide g29 _ (unhide HLc12)).mono ?_
        rintro e z1 ⟨rfl, hb1⟩
        obtain ⟨t0, t1, t2, t3⟩ := ((unhide HXt12).below hb1).facts
        have HB20 := hide (btC (unhide HB12) hb1)
        clear hb1 c0 c1 c2 c3 c4 c5
        go_wp2_with fail
        go_ret
        exact ⟨rfl, unhide HB20⟩
      | true =>
        obtain ⟨q1, q2, q3⟩ := cert_good (unhide HCD) hCB
        have hv := (unhide HCD).2.2.2
        have w1 : wrap64 (vc + 1) = vc + 1 := by unfold wrap64; omega
        have zT : (certTm hc tc vc).size ≤ 61010 := by have := certTm_200 hc tc vc; omega
        have e1 := hide (fun V h1 h2 h3 h4 => good_one (certTm hc tc vc) hc vc zT true ⟨fun _ => rfl, fun _ => q1⟩ opT nT sT aT lenT capT x V h1 h2 h3 h4)
        have e2 := hide (fun V h1 h2 h3 h4 => good_one (certTm hc tc vc) hc (vc + 1) zT false ⟨fun h => absurd h q2, (fun h => by cases h)⟩ opT nT sT aT lenT capT x V h1 h2 h3 h4)
        have e3 := hide (fun V h1 h2 h3 h4 => good_one (certTm hc tc vc) ⟨#[122, 122, 46, 122, 122]⟩ 0 zT false ⟨fun h => absurd h q3, (fun h => by cases h)⟩ opT nT sT aT lenT capT x V h1 h2 h3 h4)
        rw [hCB] at g29
        clear q1 q2 q3 zT hCB
        go_wp2_with fail
        refine (unhide g29 _ (unhide HLc12)).mono ?_
        rintro e z1 ⟨rfl, hb1⟩
        have HB20 := hide (btC (unhide HB12) hb1)
        have HLt20 := hide ((unhide HLt12).below hb1)
        have HXt20 := hide ((unhide HXt12).below hb1)
        have HXc20 := hide ((unhide HXc12).below hb1)
        clear hb1 c0 c1 c2 c3 c4 c5
        obtain ⟨c0, c1, c2, c3, c4, c5⟩ := (unhide HXc20).facts
        obtain ⟨t0, t1, t2, t3⟩ := (unhide HXt20).facts
        go_wp2_with fail
        refine (unhide e1 _ (unhide HLt20) ((unhide HE).on (unhide HB20)) ((unhide HR).on (unhide HB20)) ((unhide HT).on (unhide HB20))).mono ?_
        rintro e z2 ⟨opA, nA, sA, aA, lenA, capA, rfl, hb2⟩
        have hb2' := btC hb2 (ab (.cells #[.int .i64 opA, .int .i64 nA, .string sA, .slice aA lenA capA] 30))
        have HB21 := hide (btC (unhide HB20) hb2')
        have HLt21 := hide ((unhide HLt20).below hb2')
        have HXt21 := hide ((unhide HXt20).below hb2')
        have HXc21 := hide ((unhide HXc20).below hb2')
        clear hb2 hb2' c0 c1 c2 c3 c4 c5 t0 t1 t2 t3
        obtain ⟨c0, c1, c2, c3, c4, c5⟩ := (unhide HXc21).facts
        obtain ⟨t0, t1, t2, t3⟩ := (unhide HXt21).facts
        go_wp2_with fail
        refine (unhide e2 _ (unhide HLt21) ((unhide HE).on (unhide HB21)) ((unhide HR).on (unhide HB21)) ((unhide HT).on (unhide HB21))).mono ?_
        rintro e z3 ⟨opB, nB, sB, aB, lenB, capB, rfl, hb3⟩
        have hb3' := btC hb3 (ab (.cells #[.int .i64 opB, .int .i64 nB, .string sB, .slice aB lenB capB] 30))
        have HB22 := hide (btC (unhide HB21) hb3')
        have HLt22 := hide ((unhide HLt21).below hb3')
        have HXt22 := hide ((unhide HXt21).below hb3')
        have HXc22 := hide ((unhide HXc21).below hb3')
        clear hb3 hb3' c0 c1 c2 c3 c4 c5 t0 t1 t2 t3
        obtain ⟨c0, c1, c2, c3, c4, c5⟩ := (unhide HXc22).facts
        obtain ⟨t0, t1, t2, t3⟩ := (unhide HXt22).facts
        go_wp2_with fail
        refine (unhide e3 _ (unhide HLt22) ((unhide HE).on (unhide HB22)) ((unhide HR).on (unhide HB22)) ((unhide HT).on (unhide HB22))).mono ?_
        rintro e z4 ⟨opF, nF, sF, aF, lenF, capF, rfl, hb4⟩
        have hb4' := btC hb4 (ab (.cells #[.int .i64 opF, .int .i64 nF, .string sF, .slice aF lenF capF] 30))
        have HB23 := hide (btC (unhide HB22) hb4')
        have HLt23 := hide ((unhide HLt22).below hb4')
        have HXt23 := hide ((unhide HXt22).below hb4')
        have HXc23 := hide ((unhide HXc22).below hb4')
        clear hb4 hb4' c0 c1 c2 c3 c4 c5 t0 t1 t2 t3
        obtain ⟨c0, c1, c2, c3, c4, c5⟩ := (unhide HXc23).facts
        obtain ⟨t0, t1, t2, t3⟩ := (unhide HXt23).facts
        go_wp2_with fail
        go_ret
        exact ⟨rfl, unhide HB23⟩)
  | true =>
    have HZX : Hid (X.size ≤ 2097152) := by show _ ≤ _; omega
    have g10 := hide (fun V hl ht he => certTI PD HD opD nD sD aD lenD capD VD V hl (by omega) (by omega) ht he)
    have hX := unhide HOX rfl
    rw [hX] at g10
    clear hX
    have g28 := hide (fun opZ nZ sZ aZ lenZ capZ V h1 h2 => same_yes X opZ nZ sZ aZ lenZ capZ opX nX sX aX lenX capX V h1 h2 (unhide HZX))
    obtain ⟨d0, d1, d2, d3, d4, d5⟩ := (unhide HXd11).facts
    obtain ⟨x0, x1, x2, x3⟩ := (unhide HXx11).facts
    go_wp2_with fail
    go_region_held3 (fun y => y.cell? ⟨b4, 0, none⟩ = some (.string HD) ∧ y.cell? ⟨b4, 1, none⟩ = some (.int .i64 opD) ∧ y.cell? ⟨b4, 2, none⟩ = some (.int .i64 nD) ∧ y.cell? ⟨b4, 3, none⟩ = some (.string sD) ∧ y.cell? ⟨b4, 4, none⟩ = some (.slice aD lenD capD) ∧ y.cell? ⟨b4, 5, none⟩ = some (.int .i64 VD) ∧ y.cell? ⟨b3, 0, none⟩ = some (.int .i64 opX) ∧ y.cell? ⟨b3, 1, none⟩ = some (.int .i64 nX) ∧ y.cell? ⟨b3, 2, none⟩ = some (.string sX) ∧ y.cell? ⟨b3, 3, none⟩ = some (.slice aX lenX capX)) (go_keep)
      (first
        | (go_at_call 28
           have qq := C1
           clear qq
           refine (unhide g28 opZ nZ sZ aZ lenZ capZ _ (unhide HZ) ((unhide HLx11).below (unhide C1))).mono ?_
           rintro e u2 ⟨rfl, hb2⟩
           have C2 := hide (btC (unhide C1) hb2)
           clear hb2 d0 d1 d2 d3 d4 d5 x0 x1 x2 x3
           obtain ⟨d0, d1, d2, d3, d4, d5⟩ := ((unhide HXd11).below (unhide C2)).facts
           obtain ⟨x0, x1, x2, x3⟩ := ((unhide HXx11).below (unhide C2)).facts)
        | (go_at_call 10
           refine (unhide g10 _ ((unhide HLd11).below ((Below.refl _ _).drew)) ((unhide HT).on (unhide HB11).drew) ⟨x, (unhide HE).on (unhide HB11).drew⟩).mono ?_
           rintro e u1 ⟨opZ, nZ, sZ, aZ, lenZ, capZ, fZ, rfl, hO, -, hb1⟩
           have HZ := hide hO.lies0
           have C1 := hide (below_drewC hb1)
           clear hO hb1 d0 d1 d2 d3 d4 d5 x0 x1 x2 x3
           obtain ⟨d0, d1, d2, d3, d4, d5⟩ := ((unhide HXd11).below (unhide C1)).facts
           obtain ⟨x0, x1, x2, x3⟩ := ((unhide HXx11).below (unhide C1)).facts))
    have HB12 := hide (btC (unhide HB11) (unhide C2))
    have HLc12 := hide ((unhide HLc11).below (unhide C2))
    have HXc12 := hide ((unhide HXc11).below (unhide C2))
    have HLt12 := hide ((unhide HLt11).below (unhide C2))
    have HXt12 := hide ((unhide HXt11).below (unhide C2))
    clear HB11 HLc11 HLt11 HLx11 HLd11 HXc11 HXt11 HXx11 HXd11 C1 C2 HZ d0 d1 d2 d3 d4 d5 x0 x1 x2 x3 g10 g28 HZX
    all_goals (
      have g29 := hide (fun V hl => certI tc hc opC nC sC aC lenC capC vc V hl zc zh)
      obtain ⟨c0, c1, c2, c3, c4, c5⟩ := (unhide HXc12).facts
      cases hCB : certB hc tc vc with
      | false =>
        have hop : opT = 0 := zero_op (t := certT hc tc vc) (by have := unhide HLt12; unfold certTm at this; rw [hCB] at this; exact this)
        subst hop
        rw [hCB] at g29
        go_wp2_with fail
        refine (unhide g29 _ (unhide HLc12)).mono ?_
        rintro e z1 ⟨rfl, hb1⟩
        obtain ⟨t0, t1, t2, t3⟩ := ((unhide HXt12).below hb1).facts
        have HB20 := hide (btC (unhide HB12) hb1)
        clear hb1 c0 c1 c2 c3 c4 c5
        go_wp2_with fail
        go_ret
        exact ⟨rfl, unhide HB20⟩
      | true =>
        obtain ⟨q1, q2, q3⟩ := cert_good (unhide HCD) hCB
        have hv := (unhide HCD).2.2.2
        have w1 : wrap64 (vc + 1) = vc + 1 := by unfold wrap64; omega
        have zT : (certTm hc tc vc).size ≤ 61010 := by have := certTm_200 hc tc vc; omega
        have e1 := hide (fun V h1 h2 h3 h4 => good_one (certTm hc tc vc) hc vc zT true ⟨fun _ => rfl, fun _ => q1⟩ opT nT sT aT lenT capT x V h1 h2 h3 h4)
        have e2 := hide (fun V h1 h2 h3 h4 => good_one (certTm hc tc vc) hc (vc + 1) zT false ⟨fun h => absurd h q2, (fun h => by cases h)⟩ opT nT sT aT lenT capT x V h1 h2 h3 h4)
        have e3 := hide (fun V h1 h2 h3 h4 => good_one (certTm hc tc vc) ⟨#[122, 122, 46, 122, 122]⟩ 0 zT false ⟨fun h => absurd h q3, (fun h => by cases h)⟩ opT nT sT aT lenT capT x V h1 h2 h3 h4)
        rw [hCB] at g29
        clear q1 q2 q3 zT hCB
        go_wp2_with fail
        refine (unhide g29 _ (unhide HLc12)).mono ?_
        rintro e z1 ⟨rfl, hb1⟩
        have HB20 := hide (btC (unhide HB12) hb1)
        have HLt20 := hide ((unhide HLt12).below hb1)
        have HXt20 := hide ((unhide HXt12).below hb1)
        have HXc20 := hide ((unhide HXc12).below hb1)
        clear hb1 c0 c1 c2 c3 c4 c5
        obtain ⟨c0, c1, c2, c3, c4, c5⟩ := (unhide HXc20).facts
        obtain ⟨t0, t1, t2, t3⟩ := (unhide HXt20).facts
        go_wp2_with fail
        refine (unhide e1 _ (unhide HLt20) ((unhide HE).on (unhide HB20)) ((unhide HR).on (unhide HB20)) ((unhide HT).on (unhide HB20))).mono ?_
        rintro e z2 ⟨opA, nA, sA, aA, lenA, capA, rfl, hb2⟩
        have hb2' := btC hb2 (ab (.cells #[.int .i64 opA, .int .i64 nA, .string sA, .slice aA lenA capA] 30))
        have HB21 := hide (btC (unhide HB20) hb2')
        have HLt21 := hide ((unhide HLt20).below hb2')
        have HXt21 := hide ((unhide HXt20).below hb2')
        have HXc21 := hide ((unhide HXc20).below hb2')
        clear hb2 hb2' c0 c1 c2 c3 c4 c5 t0 t1 t2 t3
        obtain ⟨c0, c1, c2, c3, c4, c5⟩ := (unhide HXc21).facts
        obtain ⟨t0, t1, t2, t3⟩ := (unhide HXt21).facts
        go_wp2_with fail
        refine (unhide e2 _ (unhide HLt21) ((unhide HE).on (unhide HB21)) ((unhide HR).on (unhide HB21)) ((unhide HT).on (unhide HB21))).mono ?_
        rintro e z3 ⟨opB, nB, sB, aB, lenB, capB, rfl, hb3⟩
        have hb3' := btC hb3 (ab (.cells #[.int .i64 opB, .int .i64 nB, .string sB, .slice aB lenB capB] 30))
        have HB22 := hide (btC (unhide HB21) hb3')
        have HLt22 := hide ((unhide HLt21).below hb3')
        have HXt22 := hide ((unhide HXt21).below hb3')
        have HXc22 := hide ((unhide HXc21).below hb3')
        clear hb3 hb3' c0 c1 c2 c3 c4 c5 t0 t1 t2 t3
        obtain ⟨c0, c1, c2, c3, c4, c5⟩ := (unhide HXc22).facts
        obtain ⟨t0, t1, t2, t3⟩ := (unhide HXt22).facts
        go_wp2_with fail
        refine (unhide e3 _ (unhide HLt22) ((unhide HE).on (unhide HB22)) ((unhide HR).on (unhide HB22)) ((unhide HT).on (unhide HB22))).mono ?_
        rintro e z4 ⟨opF, nF, sF, aF, lenF, capF, rfl, hb4⟩
        have hb4' := btC hb4 (ab (.cells #[.int .i64 opF, .int .i64 nF, .string sF, .slice aF lenF capF] 30))
        have HB23 := hide (btC (unhide HB22) hb4')
        have HLt23 := hide ((unhide HLt22).below hb4')
        have HXt23 := hide ((unhide HXt22).below hb4')
        have HXc23 := hide ((unhide HXc22).below hb4')
        clear hb4 hb4' c0 c1 c2 c3 c4 c5 t0 t1 t2 t3
        obtain ⟨c0, c1, c2, c3, c4, c5⟩ := (unhide HXc23).facts
        obtain ⟨t0, t1, t2, t3⟩ := (unhide HXt23).facts
        go_wp2_with fail
        go_ret
        exact ⟨rfl, unhide HB23⟩)
theorem lawCerts (ad : Option Addr) (ln cp : Nat) (w : World) (hB : Bytes w w.heap.size ad ln) (hlc : ln ≤ cp) (hr : Var12 w) (ht : Tab w) (he : Err w) :
    Calls Tryz.prog 6 #[.slice ad ln cp] w fun e w' => e = .returned (.bool true) ∧ Below w.heap.size w w' := by
  by_cases hl : ln ≤ 1048576
  · obtain ⟨x, hx⟩ := he
    exact lawCerts1 ad ln cp w hB hl hlc x hx hr ht
  · have hbig := hide (fun v => big_yes ad ln cp v hl)
    clear hB hr ht he
    go_enter Tryz.func6, Tryz.ntmps6
    go_wp2_with fail
    refine (unhide hbig _).mono ?_
    rintro e w0 ⟨rfl, rfl⟩
    go_wp2_with fail
    go_ret
    exact ⟨rfl, Below.refl _ _⟩

end Go.Proofs.YtnnneeaapahgaaaGreatDoor
