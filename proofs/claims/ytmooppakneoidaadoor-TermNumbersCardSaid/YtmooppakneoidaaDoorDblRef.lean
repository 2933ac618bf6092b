/- The document's Parse. -/
import Derived.Test.YtmooppakneoidaaDoorDbl3
import Derived.Deep.DeepCutAuto
namespace Go.Proofs.YtmooppakneoidaaDoor
set_option linter.unusedVariables false
set_option linter.unusedSimpArgs false
set_option maxRecDepth 100000
open Go.ChangeShapes Go.WideShapes Go.ChangeAt Go.RowKit

theorem rdigits_any (l : List UInt8) (w : World) (hl : l.length ≤ 9223372036854775807) :
    Calls Tryd.prog 55 #[str l] w fun e w' => e = .returned (.int .i64 (Db.digs l : Nat)) ∧ w = w' := by
  have hd := Db.digs_le l
  go_enter Tryd.func55, Tryd.ntmps55
  go_wp2
  go_loop [3] (fun s => ∃ n : Nat, n ≤ Db.digs l ∧ s = .int .i64 n) (fun s => l.length - (intOf s).toNat)
  case atStart => exact ⟨0, by omega, rfl⟩
  case round =>
    obtain ⟨n, hn, rfl⟩ := hrel
    by_cases hlt : n < Db.digs l
    · obtain ⟨c, hc, h1, h2⟩ := Db.digs_all l n hlt
      have hcc := fun p => ba_get l n c hc p
      have hnl : n < l.length := by omega
      clear hc
      go_wp2
      go_round
      case rel => exact ⟨n + 1, by omega, by go_num⟩
      case measure => simp [intOf]; omega
    · have hnd : n = Db.digs l := by omega
      by_cases hnl : n < l.length
      · obtain ⟨c, hc⟩ : ∃ c, l[n]? = some c := ⟨_, List.getElem?_eq_getElem hnl⟩
        have hst := Db.digs_stop l c (by rw [← hnd]; exact hc)
        have hcc := fun p => ba_get l n c hc p
        have HN := hid hnd
        clear hc hnd
        rcases hst with h1 | h1
        all_goals
          go_wp2
          go_ret
          exact ⟨ret_int (by rw [HN.out]), rfl⟩
      · have HN := hid hnd
        clear hnd
        go_wp2
        go_ret
        exact ⟨ret_int (by rw [HN.out]), rfl⟩
theorem rwhole_any (l : List UInt8) (w : World) (hl : l.length ≤ 15) (hd : Db.AllDig l) :
    Calls Tryd.prog 33 #[str l] w fun e w' => e = .returned (.int .i64 (Db.val l : Nat)) ∧ w = w' := by
  have HD := hid hd
  have HV := hid (Db.val_lt l hd)
  clear hd
  go_enter Tryd.func33, Tryd.ntmps33
  go_wp2
  go_loop [3, 4] (fun s3 s4 => ∃ n : Nat, n ≤ l.length ∧ s3 = .int .i64 (Db.val (l.take n) : Nat) ∧ s4 = .int .i64 n) (fun _ s4 => l.length - (intOf s4).toNat)
  case atStart => exact ⟨0, by omega, rfl, rfl⟩
  case round =>
    obtain ⟨n, hn, rfl, rfl⟩ := hrel
    by_cases hlt : n < l.length
    · obtain ⟨c, hc⟩ : ∃ c, l[n]? = some c := ⟨_, List.getElem?_eq_getElem hlt⟩
      obtain ⟨h1, h2⟩ := HD.out n c hc
      have hcc := fun p => ba_get l n c hc p
      have HT := hid (Db.val_take l n c hc)
      have hv := HV.out n hn
      have h10 := Db.ten_le (n := n) (by omega)
      obtain ⟨x, hx⟩ : ∃ x, x = Db.val (l.take n) := ⟨_, rfl⟩
      rw [← hx] at hv HT ⊢
      have hxl : x < 1000000000000000 := by omega
      have hcl : c.toNat - 48 ≤ 9 := by omega
      clear hx hv h10 hc
      go_wp2
      go_round
      case rel => exact ⟨n + 1, by omega, by rw [HT.out]; congr 1; omega, by go_num⟩
      case measure => simp [intOf]; omega
    · obtain rfl : n = l.length := by omega
      have HF := hid (show l.take l.length = l from List.take_length)
      go_wp2
      go_ret
      exact ⟨rfl, rfl⟩

/-- Five results. -/
def five (m : List UInt8) (b : Nat) (e : List UInt8) (below ok : Bool) : Value := .tuple #[str m, .int .i64 b, str e, .bool below, .bool ok]
set_option maxHeartbeats 1000000
theorem rparts_none_1 (l a b x r : List UInt8) (w : World) (hl : l.length ≤ 9223372036854775806) (hxl : x.length + a.length + 1 = l.length) (hla : a.length = Db.digs l) (hlb : b.length = Db.digs x)
    (E1 : (⟨l.toArray⟩ : ByteArray).extract 0 a.length = ⟨a.toArray⟩) (E2 : (⟨l.toArray⟩ : ByteArray).extract a.length l.length = ⟨(46 :: x).toArray⟩) (E4 : (⟨(46 :: x).toArray⟩ : ByteArray).extract 1 (1 + b.length) = ⟨b.toArray⟩) (E5 : (⟨(46 :: x).toArray⟩ : ByteArray).extract (1 + b.length) (x.length + 1) = ⟨r.toArray⟩) (hrl : r.length ≤ x.length) (hz : a.length = 0) (hz2 : b.length = 0) :
    Calls Tryd.prog 32 #[str l] w fun e w' => e = .returned (five [] 0 [] false false) ∧ w = w' := by
  obtain rfl : a = [] := List.eq_nil_of_length_eq_zero hz
  obtain rfl : b = [] := List.eq_nil_of_length_eq_zero hz2
  simp only [List.length_nil, Nat.add_zero] at E1 E2 hla E4 E5 hlb hxl
  have D1 := hid (fun w => rdigits_any l w (by omega))
  rw [← hla] at D1
  have hal : ([] : List UInt8).length ≤ l.length := by simp
  have D2 := hid (fun w => rdigits_any x w (by omega))
  rw [← hlb] at D2
  have hbl : ([] : List UInt8).length ≤ x.length := by simp
  have E3 := ba_tail 46 x
  have hcc := fun p => ba_get (46 :: x) 0 46 rfl p
  have EA : (⟨#[]⟩ : ByteArray) ++ ⟨#[]⟩ = ⟨#[]⟩ := rfl
  clear hlb
  clear hla
  have hxb : x.length < l.length := by omega
  clear hxl
  clear hz hz2 hal hbl E5
  go_enter Tryd.func32, Tryd.ntmps32
  go_wp2_with fail
  refine (D1.out _).mono ?_
  rintro e w' ⟨rfl, rfl⟩
  go_wp2_with fail
  refine (D2.out _).mono ?_
  rintro e w' ⟨rfl, rfl⟩
  go_wp2_with fail
  exact bodyPost_ret (v := five [] 0 [] false false) (by simp [five, results, Tryd.results32, go_sem]) rfl ⟨rfl, rfl⟩
theorem rparts_none_2 (l a : List UInt8) (w : World) (hl : l.length ≤ 9223372036854775806) (hla : a.length = Db.digs l)
    (E1 : (⟨l.toArray⟩ : ByteArray).extract 0 a.length = ⟨a.toArray⟩) (E2 : (⟨l.toArray⟩ : ByteArray).extract a.length l.length = ⟨#[]⟩) (hz : a.length = 0) :
    Calls Tryd.prog 32 #[str l] w fun e w' => e = .returned (five [] 0 [] false false) ∧ w = w' := by
  obtain rfl : a = [] := List.eq_nil_of_length_eq_zero hz
  simp only [List.length_nil, Nat.add_zero] at E1 E2 hla
  have D1 := hid (fun w => rdigits_any l w (by omega))
  rw [← hla] at D1
  have hal : ([] : List UInt8).length ≤ l.length := by simp
  clear hla
  clear hz hal
  go_enter Tryd.func32, Tryd.ntmps32
  go_wp2_with fail
  refine (D1.out _).mono ?_
  rintro e w' ⟨rfl, rfl⟩
  go_wp2_with fail
  exact bodyPost_ret (v := five [] 0 [] false false) (by simp [five, results, Tryd.results32, go_sem]) rfl ⟨rfl, rfl⟩
theorem rparts_none_3 (l a : List UInt8) (c : UInt8) (x : List UInt8) (w : World) (hl : l.length ≤ 9223372036854775806) (hxl : x.length + a.length + 1 = l.length) (hla : a.length = Db.digs l) (hc : c ≠ 46)
    (E1 : (⟨l.toArray⟩ : ByteArray).extract 0 a.length = ⟨a.toArray⟩) (E2 : (⟨l.toArray⟩ : ByteArray).extract a.length l.length = ⟨(c :: x).toArray⟩) (hz : a.length = 0) :
    Calls Tryd.prog 32 #[str l] w fun e w' => e = .returned (five [] 0 [] false false) ∧ w = w' := by
  obtain rfl : a = [] := List.eq_nil_of_length_eq_zero hz
  simp only [List.length_nil, Nat.add_zero] at E1 E2 hla hxl
  have D1 := hid (fun w => rdigits_any l w (by omega))
  rw [← hla] at D1
  have hal : ([] : List UInt8).length ≤ l.length := by simp
  have hcc := fun p => ba_get (c :: x) 0 c rfl p
  have h46 : ((c.toNat : Int) == 46) = false := by rw [beq_eq_false_iff_ne]; intro e; exact hc (UInt8.toNat_inj.1 (by show c.toNat = 46; omega))
  have h46' : (c == 46) = false := beq_eq_false_iff_ne.2 hc
  clear hc
  clear hla
  clear hz hal
  go_enter Tryd.func32, Tryd.ntmps32
  go_wp2_with fail
  refine (D1.out _).mono ?_
  rintro e w' ⟨rfl, rfl⟩
  go_wp2_with fail
  exact bodyPost_ret (v := five [] 0 [] false false) (by simp [five, results, Tryd.results32, go_sem]) rfl ⟨rfl, rfl⟩
theorem rparts_plain_1 (l a b x r : List UInt8) (w : World) (hl : l.length ≤ 9223372036854775806) (hxl : x.length + a.length + 1 = l.length) (hla : a.length = Db.digs l) (hlb : b.length = Db.digs x)
    (E1 : (⟨l.toArray⟩ : ByteArray).extract 0 a.length = ⟨a.toArray⟩) (E2 : (⟨l.toArray⟩ : ByteArray).extract a.length l.length = ⟨(46 :: x).toArray⟩) (E4 : (⟨(46 :: x).toArray⟩ : ByteArray).extract 1 (1 + b.length) = ⟨b.toArray⟩) (E5 : (⟨(46 :: x).toArray⟩ : ByteArray).extract (1 + b.length) (x.length + 1) = ⟨r.toArray⟩) (hrl : r.length ≤ x.length) (hz : 1 ≤ a.length + b.length) (hr : r = []) :
    Calls Tryd.prog 32 #[str l] w fun e w' => e = .returned (five (a ++ b) b.length [] false true) ∧ w = w' := by
  subst hr
  have D1 := hid (fun w => rdigits_any l w (by omega))
  rw [← hla] at D1
  have hal : a.length ≤ l.length := by rw [hla]; exact Db.digs_le l
  have D2 := hid (fun w => rdigits_any x w (by omega))
  rw [← hlb] at D2
  have hbl : b.length ≤ x.length := by rw [hlb]; exact Db.digs_le x
  have E3 := ba_tail 46 x
  have hcc := fun p => ba_get (46 :: x) 0 46 rfl p
  have EA := ba_append a b
  clear hlb
  clear hla
  have z0 : ((a.length : Int) + b.length == 0) = false := beq_eq_false_iff_ne.2 (by omega)
  go_enter Tryd.func32, Tryd.ntmps32
  go_wp2_with fail
  refine (D1.out _).mono ?_
  rintro e w' ⟨rfl, rfl⟩
  go_wp2_with fail
  refine (D2.out _).mono ?_
  rintro e w' ⟨rfl, rfl⟩
  go_wp2_with fail
  exact bodyPost_ret (v := five (a ++ b) b.length [] false true) (by simp [five, results, Tryd.results32, go_sem]) rfl ⟨rfl, rfl⟩
theorem rparts_plain_2 (l a : List UInt8) (w : World) (hl : l.length ≤ 9223372036854775806) (hla : a.length = Db.digs l)
    (E1 : (⟨l.toArray⟩ : ByteArray).extract 0 a.length = ⟨a.toArray⟩) (E2 : (⟨l.toArray⟩ : ByteArray).extract a.length l.length = ⟨#[]⟩) (hz : 1 ≤ a.length) :
    Calls Tryd.prog 32 #[str l] w fun e w' => e = .returned (five a 0 [] false true) ∧ w = w' := by
  have D1 := hid (fun w => rdigits_any l w (by omega))
  rw [← hla] at D1
  have hal : a.length ≤ l.length := by rw [hla]; exact Db.digs_le l
  clear hla
  have z0 : ((a.length : Int) == 0) = false := beq_eq_false_iff_ne.2 (by omega)
  go_enter Tryd.func32, Tryd.ntmps32
  go_wp2_with fail
  refine (D1.out _).mono ?_
  rintro e w' ⟨rfl, rfl⟩
  go_wp2_with fail
  exact bodyPost_ret (v := five a 0 [] false true) (by simp [five, results, Tryd.results32, go_sem]) rfl ⟨rfl, rfl⟩
theorem rparts_other_1 (l a b x r : List UInt8) (w : World) (hl : l.length ≤ 9223372036854775806) (hxl : x.length + a.length + 1 = l.length) (hla : a.length = Db.digs l) (hlb : b.length = Db.digs x)
    (E1 : (⟨l.toArray⟩ : ByteArray).extract 0 a.length = ⟨a.toArray⟩) (E2 : (⟨l.toArray⟩ : ByteArray).extract a.length l.length = ⟨(46 :: x).toArray⟩) (E4 : (⟨(46 :: x).toArray⟩ : ByteArray).extract 1 (1 + b.length) = ⟨b.toArray⟩) (E5 : (⟨(46 :: x).toArray⟩ : ByteArray).extract (1 + b.length) (x.length + 1) = ⟨r.toArray⟩) (hrl : r.length ≤ x.length) (hz : 1 ≤ a.length + b.length) (c : UInt8) (y : List UInt8) (hr : r = c :: y) (n1 : c ≠ 101) (n2 : c ≠ 69) :
    Calls Tryd.prog 32 #[str l] w fun e w' => e = .returned (five [] 0 [] false false) ∧ w = w' := by
  subst hr
  have D1 := hid (fun w => rdigits_any l w (by omega))
  rw [← hla] at D1
  have hal : a.length ≤ l.length := by rw [hla]; exact Db.digs_le l
  have D2 := hid (fun w => rdigits_any x w (by omega))
  rw [← hlb] at D2
  have hbl : b.length ≤ x.length := by rw [hlb]; exact Db.digs_le x
  have E3 := ba_tail 46 x
  have hcc := fun p => ba_get (46 :: x) 0 46 rfl p
  have EA := ba_append a b
  clear hlb
  clear hla
  have hc2 := fun p => ba_get (c :: y) 0 c rfl p
  have h3 : ((c.toNat : Int) != 101) = true := by rw [bne_iff_ne]; intro e; exact n1 (UInt8.toNat_inj.1 (by show c.toNat = 101; omega))
  have h4 : ((c.toNat : Int) != 69) = true := by rw [bne_iff_ne]; intro e; exact n2 (UInt8.toNat_inj.1 (by show c.toNat = 69; omega))
  clear n1 n2
  have z0 : ((a.length : Int) + b.length == 0) = false := beq_eq_false_iff_ne.2 (by omega)
  go_enter Tryd.func32, Tryd.ntmps32
  go_wp2_with fail
  refine (D1.out _).mono ?_
  rintro e w' ⟨rfl, rfl⟩
  go_wp2_with fail
  refine (D2.out _).mono ?_
  rintro e w' ⟨rfl, rfl⟩
  go_wp2_with fail
  exact bodyPost_ret (v := five [] 0 [] false false) (by simp [five, results, Tryd.results32, go_sem]) rfl ⟨rfl, rfl⟩
theorem rparts_other_3 (l a : List UInt8) (c : UInt8) (x : List UInt8) (w : World) (hl : l.length ≤ 9223372036854775806) (hxl : x.length + a.length + 1 = l.length) (hla : a.length = Db.digs l) (hc : c ≠ 46)
    (E1 : (⟨l.toArray⟩ : ByteArray).extract 0 a.length = ⟨a.toArray⟩) (E2 : (⟨l.toArray⟩ : ByteArray).extract a.length l.length = ⟨(c :: x).toArray⟩) (hz : 1 ≤ a.length) (n1 : c ≠ 101) (n2 : c ≠ 69) :
    Calls Tryd.prog 32 #[str l] w fun e w' => e = .returned (five [] 0 [] false false) ∧ w = w' := by
  have D1 := hid (fun w => rdigits_any l w (by omega))
  rw [← hla] at D1
  have hal : a.length ≤ l.length := by rw [hla]; exact Db.digs_le l
  have hcc := fun p => ba_get (c :: x) 0 c rfl p
  have h46 : ((c.toNat : Int) == 46) = false := by rw [beq_eq_false_iff_ne]; intro e; exact hc (UInt8.toNat_inj.1 (by show c.toNat = 46; omega))
  have h46' : (c == 46) = false := beq_eq_false_iff_ne.2 hc
  clear hc
  clear hla
  have h3 : ((c.toNat : Int) != 101) = true := by rw [bne_iff_ne]; intro e; exact n1 (UInt8.toNat_inj.1 (by show c.toNat = 101; omega))
  have h4 : ((c.toNat : Int) != 69) = true := by rw [bne_iff_ne]; intro e; exact n2 (UInt8.toNat_inj.1 (by show c.toNat = 69; omega))
  clear n1 n2
  have z0 : ((a.length : Int) == 0) = false := beq_eq_false_iff_ne.2 (by omega)
  go_enter Tryd.func32, Tryd.ntmps32
  go_wp2_with fail
  refine (D1.out _).mono ?_
  rintro e w' ⟨rfl, rfl⟩
  go_wp2_with fail
  exact bodyPost_ret (v := five [] 0 [] false false) (by simp [five, results, Tryd.results32, go_sem]) rfl ⟨rfl, rfl⟩
theorem rparts_exp_e0_1 (l a b x r : List UInt8) (w : World) (hl : l.length ≤ 9223372036854775806) (hxl : x.length + a.length + 1 = l.length) (hla : a.length = Db.digs l) (hlb : b.length = Db.digs x)
    (E1 : (⟨l.toArray⟩ : ByteArray).extract 0 a.length = ⟨a.toArray⟩) (E2 : (⟨l.toArray⟩ : ByteArray).extract a.length l.length = ⟨(46 :: x).toArray⟩) (E4 : (⟨(46 :: x).toArray⟩ : ByteArray).extract 1 (1 + b.length) = ⟨b.toArray⟩) (E5 : (⟨(46 :: x).toArray⟩ : ByteArray).extract (1 + b.length) (x.length + 1) = ⟨r.toArray⟩) (hrl : r.length ≤ x.length) (hz : 1 ≤ a.length + b.length) (c : UInt8) (hr : r = c :: []) (he : c = 101 ∨ c = 69) :
    Calls Tryd.prog 32 #[str l] w fun e w' => e = .returned (five [] 0 [] false false) ∧ w = w' := by
  subst hr
  have D1 := hid (fun w => rdigits_any l w (by omega))
  rw [← hla] at D1
  have hal : a.length ≤ l.length := by rw [hla]; exact Db.digs_le l
  have D2 := hid (fun w => rdigits_any x w (by omega))
  rw [← hlb] at D2
  have hbl : b.length ≤ x.length := by rw [hlb]; exact Db.digs_le x
  have E3 := ba_tail 46 x
  have hcc := fun p => ba_get (46 :: x) 0 46 rfl p
  have EA := ba_append a b
  clear hlb
  clear hla
  have hc2 := fun p => ba_get (c :: []) 0 c rfl p
  have T1 := ba_tail c []
  simp only [List.length_cons, List.length_nil, Nat.zero_add, Nat.reduceAdd] at T1
  have z0 : ((a.length : Int) + b.length == 0) = false := beq_eq_false_iff_ne.2 (by omega)
  simp only [List.length_cons, List.length_nil] at hrl hl
  rcases he with rfl | rfl
  all_goals
    go_enter Tryd.func32, Tryd.ntmps32
    go_wp2_with fail
    refine (D1.out _).mono ?_
    rintro e w' ⟨rfl, rfl⟩
    go_wp2_with fail
    refine (D2.out _).mono ?_
    rintro e w' ⟨rfl, rfl⟩
    go_wp2_with fail
    exact bodyPost_ret (v := five [] 0 [] false false) (by simp [five, results, Tryd.results32, go_sem]) rfl ⟨rfl, rfl⟩
theorem rparts_exp_s1_1 (l a b x r : List UInt8) (w : World) (hl : l.length ≤ 9223372036854775806) (hxl : x.length + a.length + 1 = l.length) (hla : a.length = Db.digs l) (hlb : b.length = Db.digs x)
    (E1 : (⟨l.toArray⟩ : ByteArray).extract 0 a.length = ⟨a.toArray⟩) (E2 : (⟨l.toArray⟩ : ByteArray).extract a.length l.length = ⟨(46 :: x).toArray⟩) (E4 : (⟨(46 :: x).toArray⟩ : ByteArray).extract 1 (1 + b.length) = ⟨b.toArray⟩) (E5 : (⟨(46 :: x).toArray⟩ : ByteArray).extract (1 + b.length) (x.length + 1) = ⟨r.toArray⟩) (hrl : r.length ≤ x.length) (hz : 1 ≤ a.length + b.length) (s : UInt8) (hs : s = 43 ∨ s = 45) (c : UInt8) (hr : r = c :: [s]) (he : c = 101 ∨ c = 69) :
    Calls Tryd.prog 32 #[str l] w fun e w' => e = .returned (five [] 0 [] false false) ∧ w = w' := by
  subst hr
  have D1 := hid (fun w => rdigits_any l w (by omega))
  rw [← hla] at D1
  have hal : a.length ≤ l.length := by rw [hla]; exact Db.digs_le l
  have D2 := hid (fun w => rdigits_any x w (by omega))
  rw [← hlb] at D2
  have hbl : b.length ≤ x.length := by rw [hlb]; exact Db.digs_le x
  have E3 := ba_tail 46 x
  have hcc := fun p => ba_get (46 :: x) 0 46 rfl p
  have EA := ba_append a b
  clear hlb
  clear hla
  have hc2 := fun p => ba_get (c :: [s]) 0 c rfl p
  have T1 := ba_tail c [s]
  simp only [List.length_cons, List.length_nil, Nat.zero_add, Nat.reduceAdd] at T1
  have z0 : ((a.length : Int) + b.length == 0) = false := beq_eq_false_iff_ne.2 (by omega)
  simp only [List.length_cons, List.length_nil] at hrl hl
  have hc3 := fun p => ba_get [s] 0 s rfl p
  have T2 := ba_tail s []
  simp only [List.length_cons, List.length_nil, Nat.zero_add, Nat.reduceAdd] at T2
  rcases he with rfl | rfl <;> rcases hs with rfl | rfl
  all_goals
    go_enter Tryd.func32, Tryd.ntmps32
    go_wp2_with fail
    refine (D1.out _).mono ?_
    rintro e w' ⟨rfl, rfl⟩
    go_wp2_with fail
    refine (D2.out _).mono ?_
    rintro e w' ⟨rfl, rfl⟩
    go_wp2_with fail
    exact bodyPost_ret (v := five [] 0 [] false false) (by simp [five, results, Tryd.results32, go_sem]) rfl ⟨rfl, rfl⟩
theorem rparts_exp_s2_1 (l a b x r : List UInt8) (w : World) (hl : l.length ≤ 9223372036854775806) (hxl : x.length + a.length + 1 = l.length) (hla : a.length = Db.digs l) (hlb : b.length = Db.digs x)
    (E1 : (⟨l.toArray⟩ : ByteArray).extract 0 a.length = ⟨a.toArray⟩) (E2 : (⟨l.toArray⟩ : ByteArray).extract a.length l.length = ⟨(46 :: x).toArray⟩) (E4 : (⟨(46 :: x).toArray⟩ : ByteArray).extract 1 (1 + b.length) = ⟨b.toArray⟩) (E5 : (⟨(46 :: x).toArray⟩ : ByteArray).extract (1 + b.length) (x.length + 1) = ⟨r.toArray⟩) (hrl : r.length ≤ x.length) (hz : 1 ≤ a.length + b.length) (s u : UInt8) (v : List UInt8) (hs : s = 43 ∨ s = 45) (hd : Db.digs (u :: v) ≠ (u :: v).length) (c : UInt8) (hr : r = c :: (s :: u :: v)) (he : c = 101 ∨ c = 69) :
    Calls Tryd.prog 32 #[str l] w fun e w' => e = .returned (five [] 0 [] false false) ∧ w = w' := by
  subst hr
  have D1 := hid (fun w => rdigits_any l w (by omega))
  rw [← hla] at D1
  have hal : a.length ≤ l.length := by rw [hla]; exact Db.digs_le l
  have D2 := hid (fun w => rdigits_any x w (by omega))
  rw [← hlb] at D2
  have hbl : b.length ≤ x.length := by rw [hlb]; exact Db.digs_le x
  have E3 := ba_tail 46 x
  have hcc := fun p => ba_get (46 :: x) 0 46 rfl p
  have EA := ba_append a b
  clear hlb
  clear hla
  have hc2 := fun p => ba_get (c :: (s :: u :: v)) 0 c rfl p
  have T1 := ba_tail c (s :: u :: v)
  simp only [List.length_cons, List.length_nil, Nat.zero_add, Nat.reduceAdd] at T1
  have z0 : ((a.length : Int) + b.length == 0) = false := beq_eq_false_iff_ne.2 (by omega)
  simp only [List.length_cons, List.length_nil] at hrl hl
  have hc3 := fun p => ba_get (s :: u :: v) 0 s rfl p
  have T2 := ba_tail s (u :: v)
  simp only [List.length_cons, List.length_nil, Nat.zero_add, Nat.reduceAdd] at T2
  have D3 := hid (fun w => rdigits_any (u :: v) w (by simp only [List.length_cons]; omega))
  have g3 : ((Db.digs (u :: v) : Int) != ((v.length : Int) + 1)) = true := by rw [bne_iff_ne]; simp only [List.length_cons] at hd; omega
  obtain ⟨q, hq⟩ : ∃ q, q = Db.digs (u :: v) := ⟨_, rfl⟩
  rw [← hq] at D3 g3
  clear hd hq
  rcases he with rfl | rfl <;> rcases hs with rfl | rfl
  all_goals
    go_enter Tryd.func32, Tryd.ntmps32
    go_wp2_with fail
    refine (D1.out _).mono ?_
    rintro e w' ⟨rfl, rfl⟩
    go_wp2_with fail
    refine (D2.out _).mono ?_
    rintro e w' ⟨rfl, rfl⟩
    go_wp2_with (go_at_call 55; refine (D3.out _).mono ?_; rintro e w' ⟨rfl, rfl⟩)
    exact bodyPost_ret (v := five [] 0 [] false false) (by simp [five, results, Tryd.results32, go_sem]) rfl ⟨rfl, rfl⟩
theorem rparts_exp_s3p_1 (l a b x r : List UInt8) (w : World) (hl : l.length ≤ 9223372036854775806) (hxl : x.length + a.length + 1 = l.length) (hla : a.length = Db.digs l) (hlb : b.length = Db.digs x)
    (E1 : (⟨l.toArray⟩ : ByteArray).extract 0 a.length = ⟨a.toArray⟩) (E2 : (⟨l.toArray⟩ : ByteArray).extract a.length l.length = ⟨(46 :: x).toArray⟩) (E4 : (⟨(46 :: x).toArray⟩ : ByteArray).extract 1 (1 + b.length) = ⟨b.toArray⟩) (E5 : (⟨(46 :: x).toArray⟩ : ByteArray).extract (1 + b.length) (x.length + 1) = ⟨r.toArray⟩) (hrl : r.length ≤ x.length) (hz : 1 ≤ a.length + b.length) (u : UInt8) (v : List UInt8) (hd : Db.digs (u :: v) = (u :: v).length) (c : UInt8) (hr : r = c :: (43 :: u :: v)) (he : c = 101 ∨ c = 69) :
    Calls Tryd.prog 32 #[str l] w fun e w' => e = .returned (five (a ++ b) b.length (u :: v) false true) ∧ w = w' := by
  subst hr
  have D1 := hid (fun w => rdigits_any l w (by omega))
  rw [← hla] at D1
  have hal : a.length ≤ l.length := by rw [hla]; exact Db.digs_le l
  have D2 := hid (fun w => rdigits_any x w (by omega))
  rw [← hlb] at D2
  have hbl : b.length ≤ x.length := by rw [hlb]; exact Db.digs_le x
  have E3 := ba_tail 46 x
  have hcc := fun p => ba_get (46 :: x) 0 46 rfl p
  have EA := ba_append a b
  clear hlb
  clear hla
  have hc2 := fun p => ba_get (c :: (43 :: u :: v)) 0 c rfl p
  have T1 := ba_tail c (43 :: u :: v)
  simp only [List.length_cons, List.length_nil, Nat.zero_add, Nat.reduceAdd] at T1
  have z0 : ((a.length : Int) + b.length == 0) = false := beq_eq_false_iff_ne.2 (by omega)
  simp only [List.length_cons, List.length_nil] at hrl hl
  have hc3 := fun p => ba_get (43 :: u :: v) 0 43 rfl p
  have T2 := ba_tail 43 (u :: v)
  simp only [List.length_cons, List.length_nil, Nat.zero_add, Nat.reduceAdd] at T2
  have D3 := hid (fun w => rdigits_any (u :: v) w (by simp only [List.length_cons]; omega))
  rw [hd] at D3
  simp only [List.length_cons] at D3
  clear hd
  rcases he with rfl | rfl
  all_goals
    go_enter Tryd.func32, Tryd.ntmps32
    go_wp2_with fail
    refine (D1.out _).mono ?_
    rintro e w' ⟨rfl, rfl⟩
    go_wp2_with fail
    refine (D2.out _).mono ?_
    rintro e w' ⟨rfl, rfl⟩
    go_wp2_with (go_at_call 55; refine (D3.out _).mono ?_; rintro e w' ⟨rfl, rfl⟩)
    exact bodyPost_ret (v := five (a ++ b) b.length (u :: v) false true) (by simp [five, results, Tryd.results32, go_sem]) rfl ⟨rfl, rfl⟩
theorem rparts_exp_s3m_1 (l a b x r : List UInt8) (w : World) (hl : l.length ≤ 9223372036854775806) (hxl : x.length + a.length + 1 = l.length) (hla : a.length = Db.digs l) (hlb : b.length = Db.digs x)
    (E1 : (⟨l.toArray⟩ : ByteArray).extract 0 a.length = ⟨a.toArray⟩) (E2 : (⟨l.toArray⟩ : ByteArray).extract a.length l.length = ⟨(46 :: x).toArray⟩) (E4 : (⟨(46 :: x).toArray⟩ : ByteArray).extract 1 (1 + b.length) = ⟨b.toArray⟩) (E5 : (⟨(46 :: x).toArray⟩ : ByteArray).extract (1 + b.length) (x.length + 1) = ⟨r.toArray⟩) (hrl : r.length ≤ x.length) (hz : 1 ≤ a.length + b.length) (u : UInt8) (v : List UInt8) (hd : Db.digs (u :: v) = (u :: v).length) (c : UInt8) (hr : r = c :: (45 :: u :: v)) (he : c = 101 ∨ c = 69) :
    Calls Tryd.prog 32 #[str l] w fun e w' => e = .returned (five (a ++ b) b.length (u :: v) true true) ∧ w = w' := by
  subst hr
  have D1 := hid (fun w => rdigits_any l w (by omega))
  rw [← hla] at D1
  have hal : a.length ≤ l.length := by rw [hla]; exact Db.digs_le l
  have D2 := hid (fun w => rdigits_any x w (by omega))
  rw [← hlb] at D2
  have hbl : b.length ≤ x.length := by rw [hlb]; exact Db.digs_le x
  have E3 := ba_tail 46 x
  have hcc := fun p => ba_get (46 :: x) 0 46 rfl p
  have EA := ba_append a b
  clear hlb
  clear hla
  have hc2 := fun p => ba_get (c :: (45 :: u :: v)) 0 c rfl p
  have T1 := ba_tail c (45 :: u :: v)
  simp only [List.length_cons, List.length_nil, Nat.zero_add, Nat.reduceAdd] at T1
  have z0 : ((a.length : Int) + b.length == 0) = false := beq_eq_false_iff_ne.2 (by omega)
  simp only [List.length_cons, List.length_nil] at hrl hl
  have hc3 := fun p => ba_get (45 :: u :: v) 0 45 rfl p
  have T2 := ba_tail 45 (u :: v)
  simp only [List.length_cons, List.length_nil, Nat.zero_add, Nat.reduceAdd] at T2
  have D3 := hid (fun w => rdigits_any (u :: v) w (by simp only [List.length_cons]; omega))
  rw [hd] at D3
  simp only [List.length_cons] at D3
  clear hd
  rcases he with rfl | rfl
  all_goals
    go_enter Tryd.func32, Tryd.ntmps32
    go_wp2_with fail
    refine (D1.out _).mono ?_
    rintro e w' ⟨rfl, rfl⟩
    go_wp2_with fail
    refine (D2.out _).mono ?_
    rintro e w' ⟨rfl, rfl⟩
    go_wp2_with (go_at_call 55; refine (D3.out _).mono ?_; rintro e w' ⟨rfl, rfl⟩)
    exact bodyPost_ret (v := five (a ++ b) b.length (u :: v) true true) (by simp [five, results, Tryd.results32, go_sem]) rfl ⟨rfl, rfl⟩
theorem rparts_exp_n2_1 (l a b x r : List UInt8) (w : World) (hl : l.length ≤ 9223372036854775806) (hxl : x.length + a.length + 1 = l.length) (hla : a.length = Db.digs l) (hlb : b.length = Db.digs x)
    (E1 : (⟨l.toArray⟩ : ByteArray).extract 0 a.length = ⟨a.toArray⟩) (E2 : (⟨l.toArray⟩ : ByteArray).extract a.length l.length = ⟨(46 :: x).toArray⟩) (E4 : (⟨(46 :: x).toArray⟩ : ByteArray).extract 1 (1 + b.length) = ⟨b.toArray⟩) (E5 : (⟨(46 :: x).toArray⟩ : ByteArray).extract (1 + b.length) (x.length + 1) = ⟨r.toArray⟩) (hrl : r.length ≤ x.length) (hz : 1 ≤ a.length + b.length) (u : UInt8) (v : List UInt8) (h1 : u ≠ 43) (h2 : u ≠ 45) (hd : Db.digs (u :: v) ≠ (u :: v).length) (c : UInt8) (hr : r = c :: (u :: v)) (he : c = 101 ∨ c = 69) :
    Calls Tryd.prog 32 #[str l] w fun e w' => e = .returned (five [] 0 [] false false) ∧ w = w' := by
  subst hr
  have D1 := hid (fun w => rdigits_any l w (by omega))
  rw [← hla] at D1
  have hal : a.length ≤ l.length := by rw [hla]; exact Db.digs_le l
  have D2 := hid (fun w => rdigits_any x w (by omega))
  rw [← hlb] at D2
  have hbl : b.length ≤ x.length := by rw [hlb]; exact Db.digs_le x
  have E3 := ba_tail 46 x
  have hcc := fun p => ba_get (46 :: x) 0 46 rfl p
  have EA := ba_append a b
  clear hlb
  clear hla
  have hc2 := fun p => ba_get (c :: (u :: v)) 0 c rfl p
  have T1 := ba_tail c (u :: v)
  simp only [List.length_cons, List.length_nil, Nat.zero_add, Nat.reduceAdd] at T1
  have z0 : ((a.length : Int) + b.length == 0) = false := beq_eq_false_iff_ne.2 (by omega)
  simp only [List.length_cons, List.length_nil] at hrl hl
  have hc3 := fun p => ba_get (u :: v) 0 u rfl p
  have g1 : ((u.toNat : Int) == 43) = false := by rw [beq_eq_false_iff_ne]; intro e; exact h1 (UInt8.toNat_inj.1 (by show u.toNat = 43; omega))
  have g2 : ((u.toNat : Int) == 45) = false := by rw [beq_eq_false_iff_ne]; intro e; exact h2 (UInt8.toNat_inj.1 (by show u.toNat = 45; omega))
  clear h1 h2
  have D3 := hid (fun w => rdigits_any (u :: v) w (by simp only [List.length_cons]; omega))
  have g3 : ((Db.digs (u :: v) : Int) != ((v.length : Int) + 1)) = true := by rw [bne_iff_ne]; simp only [List.length_cons] at hd; omega
  obtain ⟨q, hq⟩ : ∃ q, q = Db.digs (u :: v) := ⟨_, rfl⟩
  rw [← hq] at D3 g3
  clear hd hq
  rcases he with rfl | rfl
  all_goals
    go_enter Tryd.func32, Tryd.ntmps32
    go_wp2_with fail
    refine (D1.out _).mono ?_
    rintro e w' ⟨rfl, rfl⟩
    go_wp2_with fail
    refine (D2.out _).mono ?_
    rintro e w' ⟨rfl, rfl⟩
    go_wp2_with (go_at_call 55; refine (D3.out _).mono ?_; rintro e w' ⟨rfl, rfl⟩)
    exact bodyPost_ret (v := five [] 0 [] false false) (by simp [five, results, Tryd.results32, go_sem]) rfl ⟨rfl, rfl⟩
theorem rparts_exp_n3_1 (l a b x r : List UInt8) (w : World) (hl : l.length ≤ 9223372036854775806) (hxl : x.length + a.length + 1 = l.length) (hla : a.length = Db.digs l) (hlb : b.length = Db.digs x)
    (E1 : (⟨l.toArray⟩ : ByteArray).extract 0 a.length = ⟨a.toArray⟩) (E2 : (⟨l.toArray⟩ : ByteArray).extract a.length l.length = ⟨(46 :: x).toArray⟩) (E4 : (⟨(46 :: x).toArray⟩ : ByteArray).extract 1 (1 + b.length) = ⟨b.toArray⟩) (E5 : (⟨(46 :: x).toArray⟩ : ByteArray).extract (1 + b.length) (x.length + 1) = ⟨r.toArray⟩) (hrl : r.length ≤ x.length) (hz : 1 ≤ a.length + b.length) (u : UInt8) (v : List UInt8) (h1 : u ≠ 43) (h2 : u ≠ 45) (hd : Db.digs (u :: v) = (u :: v).length) (c : UInt8) (hr : r = c :: (u :: v)) (he : c = 101 ∨ c = 69) :
    Calls Tryd.prog 32 #[str l] w fun e w' => e = .returned (five (a ++ b) b.length (u :: v) false true) ∧ w = w' := by
  subst hr
  have D1 := hid (fun w => rdigits_any l w (by omega))
  rw [← hla] at D1
  have hal : a.length ≤ l.length := by rw [hla]; exact Db.digs_le l
  have D2 := hid (fun w => rdigits_any x w (by omega))
  rw [← hlb] at D2
  have hbl : b.length ≤ x.length := by rw [hlb]; exact Db.digs_le x
  have E3 := ba_tail 46 x
  have hcc := fun p => ba_get (46 :: x) 0 46 rfl p
  have EA := ba_append a b
  clear hlb
  clear hla
  have hc2 := fun p => ba_get (c :: (u :: v)) 0 c rfl p
  have T1 := ba_tail c (u :: v)
  simp only [List.length_cons, List.length_nil, Nat.zero_add, Nat.reduceAdd] at T1
  have z0 : ((a.length : Int) + b.length == 0) = false := beq_eq_false_iff_ne.2 (by omega)
  simp only [List.length_cons, List.length_nil] at hrl hl
  have hc3 := fun p => ba_get (u :: v) 0 u rfl p
  have g1 : ((u.toNat : Int) == 43) = false := by rw [beq_eq_false_iff_ne]; intro e; exact h1 (UInt8.toNat_inj.1 (by show u.toNat = 43; omega))
  have g2 : ((u.toNat : Int) == 45) = false := by rw [beq_eq_false_iff_ne]; intro e; exact h2 (UInt8.toNat_inj.1 (by show u.toNat = 45; omega))
  clear h1 h2
  have D3 := hid (fun w => rdigits_any (u :: v) w (by simp only [List.length_cons]; omega))
  rw [hd] at D3
  simp only [List.length_cons] at D3
  clear hd
  rcases he with rfl | rfl
  all_goals
    go_enter Tryd.func32, Tryd.ntmps32
    go_wp2_with fail
    refine (D1.out _).mono ?_
    rintro e w' ⟨rfl, rfl⟩
    go_wp2_with fail
    refine (D2.out _).mono ?_
    rintro e w' ⟨rfl, rfl⟩
    go_wp2_with (go_at_call 55; refine (D3.out _).mono ?_; rintro e w' ⟨rfl, rfl⟩)
    exact bodyPost_ret (v := five (a ++ b) b.length (u :: v) false true) (by simp [five, results, Tryd.results32, go_sem]) rfl ⟨rfl, rfl⟩
theorem rparts_exp_e0_3 (l a : List UInt8) (c : UInt8) (x : List UInt8) (w : World) (hl : l.length ≤ 9223372036854775806) (hxl : x.length + a.length + 1 = l.length) (hla : a.length = Db.digs l) (hc : c ≠ 46)
    (E1 : (⟨l.toArray⟩ : ByteArray).extract 0 a.length = ⟨a.toArray⟩) (E2 : (⟨l.toArray⟩ : ByteArray).extract a.length l.length = ⟨(c :: x).toArray⟩) (hz : 1 ≤ a.length) (hx : x = []) (he : c = 101 ∨ c = 69) :
    Calls Tryd.prog 32 #[str l] w fun e w' => e = .returned (five [] 0 [] false false) ∧ w = w' := by
  subst hx
  have D1 := hid (fun w => rdigits_any l w (by omega))
  rw [← hla] at D1
  have hal : a.length ≤ l.length := by rw [hla]; exact Db.digs_le l
  have hcc := fun p => ba_get (c :: []) 0 c rfl p
  have h46 : ((c.toNat : Int) == 46) = false := by rw [beq_eq_false_iff_ne]; intro e; exact hc (UInt8.toNat_inj.1 (by show c.toNat = 46; omega))
  have h46' : (c == 46) = false := beq_eq_false_iff_ne.2 hc
  clear hc
  clear hla
  have T1 := ba_tail c []
  simp only [List.length_cons, List.length_nil, Nat.zero_add, Nat.reduceAdd] at T1
  have z0 : ((a.length : Int) == 0) = false := beq_eq_false_iff_ne.2 (by omega)
  simp only [List.length_cons, List.length_nil] at hxl hl
  rcases he with rfl | rfl
  all_goals
    go_enter Tryd.func32, Tryd.ntmps32
    go_wp2_with fail
    refine (D1.out _).mono ?_
    rintro e w' ⟨rfl, rfl⟩
    go_wp2_with fail
    exact bodyPost_ret (v := five [] 0 [] false false) (by simp [five, results, Tryd.results32, go_sem]) rfl ⟨rfl, rfl⟩
theorem rparts_exp_s1_3 (l a : List UInt8) (c : UInt8) (x : List UInt8) (w : World) (hl : l.length ≤ 9223372036854775806) (hxl : x.length + a.length + 1 = l.length) (hla : a.length = Db.digs l) (hc : c ≠ 46)
    (E1 : (⟨l.toArray⟩ : ByteArray).extract 0 a.length = ⟨a.toArray⟩) (E2 : (⟨l.toArray⟩ : ByteArray).extract a.length l.length = ⟨(c :: x).toArray⟩) (hz : 1 ≤ a.length) (s : UInt8) (hs : s = 43 ∨ s = 45) (hx : x = [s]) (he : c = 101 ∨ c = 69) :
    Calls Tryd.prog 32 #[str l] w fun e w' => e = .returned (five [] 0 [] false false) ∧ w = w' := by
  subst hx
  have D1 := hid (fun w => rdigits_any l w (by omega))
  rw [← hla] at D1
  have hal : a.length ≤ l.length := by rw [hla]; exact Db.digs_le l
  have hcc := fun p => ba_get (c :: [s]) 0 c rfl p
  have h46 : ((c.toNat : Int) == 46) = false := by rw [beq_eq_false_iff_ne]; intro e; exact hc (UInt8.toNat_inj.1 (by show c.toNat = 46; omega))
  have h46' : (c == 46) = false := beq_eq_false_iff_ne.2 hc
  clear hc
  clear hla
  have T1 := ba_tail c [s]
  simp only [List.length_cons, List.length_nil, Nat.zero_add, Nat.reduceAdd] at T1
  have z0 : ((a.length : Int) == 0) = false := beq_eq_false_iff_ne.2 (by omega)
  simp only [List.length_cons, List.length_nil] at hxl hl
  have hc3 := fun p => ba_get [s] 0 s rfl p
  have T2 := ba_tail s []
  simp only [List.length_cons, List.length_nil, Nat.zero_add, Nat.reduceAdd] at T2
  rcases he with rfl | rfl <;> rcases hs with rfl | rfl
  all_goals
    go_enter Tryd.func32, Tryd.ntmps32
    go_wp2_with fail
    refine (D1.out _).mono ?_
    rintro e w' ⟨rfl, rfl⟩
    go_wp2_with fail
    exact bodyPost_ret (v := five [] 0 [] false false) (by simp [five, results, Tryd.results32, go_sem]) rfl ⟨rfl, rfl⟩
theorem rparts_exp_s2_3 (l a : List UInt8) (c : UInt8) (x : List UInt8) (w : World) (hl : l.length ≤ 9223372036854775806) (hxl : x.length + a.length + 1 = l.length) (hla : a.length = Db.digs l) (hc : c ≠ 46)
    (E1 : (⟨l.toArray⟩ : ByteArray).extract 0 a.length = ⟨a.toArray⟩) (E2 : (⟨l.toArray⟩ : ByteArray).extract a.length l.length = ⟨(c :: x).toArray⟩) (hz : 1 ≤ a.length) (s u : UInt8) (v : List UInt8) (hs : s = 43 ∨ s = 45) (hd : Db.digs (u :: v) ≠ (u :: v).length) (hx : x = (s :: u :: v)) (he : c = 101 ∨ c = 69) :
    Calls Tryd.prog 32 #[str l] w fun e w' => e = .returned (five [] 0 [] false false) ∧ w = w' := by
  subst hx
  have D1 := hid (fun w => rdigits_any l w (by omega))
  rw [← hla] at D1
  have hal : a.length ≤ l.length := by rw [hla]; exact Db.digs_le l
  have hcc := fun p => ba_get (c :: (s :: u :: v)) 0 c rfl p
  have h46 : ((c.toNat : Int) == 46) = false := by rw [beq_eq_false_iff_ne]; intro e; exact hc (UInt8.toNat_inj.1 (by show c.toNat = 46; omega))
  have h46' : (c == 46) = false := beq_eq_false_iff_ne.2 hc
  clear hc
  clear hla
  have T1 := ba_tail c (s :: u :: v)
  simp only [List.length_cons, List.length_nil, Nat.zero_add, Nat.reduceAdd] at T1
  have z0 : ((a.length : Int) == 0) = false := beq_eq_false_iff_ne.2 (by omega)
  simp only [List.length_cons, List.length_nil] at hxl hl
  have hc3 := fun p => ba_get (s :: u :: v) 0 s rfl p
  have T2 := ba_tail s (u :: v)
  simp only [List.length_cons, List.length_nil, Nat.zero_add, Nat.reduceAdd] at T2
  have D3 := hid (fun w => rdigits_any (u :: v) w (by simp only [List.length_cons]; omega))
  have g3 : ((Db.digs (u :: v) : Int) != ((v.length : Int) + 1)) = true := by rw [bne_iff_ne]; simp only [List.length_cons] at hd; omega
  obtain ⟨q, hq⟩ : ∃ q, q = Db.digs (u :: v) := ⟨_, rfl⟩
  rw [← hq] at D3 g3
  clear hd hq
  rcases he with rfl | rfl <;> rcases hs with rfl | rfl
  all_goals
    go_enter Tryd.func32, Tryd.ntmps32
    go_wp2_with fail
    refine (D1.out _).mono ?_
    rintro e w' ⟨rfl, rfl⟩
    go_wp2_with (go_at_call 55; refine (D3.out _).mono ?_; rintro e w' ⟨rfl, rfl⟩)
    exact bodyPost_ret (v := five [] 0 [] false false) (by simp [five, results, Tryd.results32, go_sem]) rfl ⟨rfl, rfl⟩
theorem rparts_exp_s3p_3 (l a : List UInt8) (c : UInt8) (x : List UInt8) (w : World) (hl : l.length ≤ 9223372036854775806) (hxl : x.length + a.length + 1 = l.length) (hla : a.length = Db.digs l) (hc : c ≠ 46)
    (E1 : (⟨l.toArray⟩ : ByteArray).extract 0 a.length = ⟨a.toArray⟩) (E2 : (⟨l.toArray⟩ : ByteArray).extract a.length l.length = ⟨(c :: x).toArray⟩) (hz : 1 ≤ a.length) (u : UInt8) (v : List UInt8) (hd : Db.digs (u :: v) = (u :: v).length) (hx : x = (43 :: u :: v)) (he : c = 101 ∨ c = 69) :
    Calls Tryd.prog 32 #[str l] w fun e w' => e = .returned (five a 0 (u :: v) false true) ∧ w = w' := by
  subst hx
  have D1 := hid (fun w => rdigits_any l w (by omega))
  rw [← hla] at D1
  have hal : a.length ≤ l.length := by rw [hla]; exact Db.digs_le l
  have hcc := fun p => ba_get (c :: (43 :: u :: v)) 0 c rfl p
  have h46 : ((c.toNat : Int) == 46) = false := by rw [beq_eq_false_iff_ne]; intro e; exact hc (UInt8.toNat_inj.1 (by show c.toNat = 46; omega))
  have h46' : (c == 46) = false := beq_eq_false_iff_ne.2 hc
  clear hc
  clear hla
  have T1 := ba_tail c (43 :: u :: v)
  simp only [List.length_cons, List.length_nil, Nat.zero_add, Nat.reduceAdd] at T1
  have z0 : ((a.length : Int) == 0) = false := beq_eq_false_iff_ne.2 (by omega)
  simp only [List.length_cons, List.length_nil] at hxl hl
  have hc3 := fun p => ba_get (43 :: u :: v) 0 43 rfl p
  have T2 := ba_tail 43 (u :: v)
  simp only [List.length_cons, List.length_nil, Nat.zero_add, Nat.reduceAdd] at T2
  have D3 := hid (fun w => rdigits_any (u :: v) w (by simp only [List.length_cons]; omega))
  rw [hd] at D3
  simp only [List.length_cons] at D3
  clear hd
  rcases he with rfl | rfl
  all_goals
    go_enter Tryd.func32, Tryd.ntmps32
    go_wp2_with fail
    refine (D1.out _).mono ?_
    rintro e w' ⟨rfl, rfl⟩
    go_wp2_with (go_at_call 55; refine (D3.out _).mono ?_; rintro e w' ⟨rfl, rfl⟩)
    exact bodyPost_ret (v := five a 0 (u :: v) false true) (by simp [five, results, Tryd.results32, go_sem]) rfl ⟨rfl, rfl⟩
theorem rparts_exp_s3m_3 (l a : List UInt8) (c : UInt8) (x : List UInt8) (w : World) (hl : l.length ≤ 9223372036854775806) (hxl : x.length + a.length + 1 = l.length) (hla : a.length = Db.digs l) (hc : c ≠ 46)
    (E1 : (⟨l.toArray⟩ : ByteArray).extract 0 a.length = ⟨a.toArray⟩) (E2 : (⟨l.toArray⟩ : ByteArray).extract a.length l.length = ⟨(c :: x).toArray⟩) (hz : 1 ≤ a.length) (u : UInt8) (v : List UInt8) (hd : Db.digs (u :: v) = (u :: v).length) (hx : x = (45 :: u :: v)) (he : c = 101 ∨ c = 69) :
    Calls Tryd.prog 32 #[str l] w fun e w' => e = .returned (five a 0 (u :: v) true true) ∧ w = w' := by
  subst hx
  have D1 := hid (fun w => rdigits_any l w (by omega))
  rw [← hla] at D1
  have hal : a.length ≤ l.length := by rw [hla]; exact Db.digs_le l
  have hcc := fun p => ba_get (c :: (45 :: u :: v)) 0 c rfl p
  have h46 : ((c.toNat : Int) == 46) = false := by rw [beq_eq_false_iff_ne]; intro e; exact hc (UInt8.toNat_inj.1 (by show c.toNat = 46; omega))
  have h46' : (c == 46) = false := beq_eq_false_iff_ne.2 hc
  clear hc
  clear hla
  have T1 := ba_tail c (45 :: u :: v)
  simp only [List.length_cons, List.length_nil, Nat.zero_add, Nat.reduceAdd] at T1
  have z0 : ((a.length : Int) == 0) = false := beq_eq_false_iff_ne.2 (by omega)
  simp only [List.length_cons, List.length_nil] at hxl hl
  have hc3 := fun p => ba_get (45 :: u :: v) 0 45 rfl p
  have T2 := ba_tail 45 (u :: v)
  simp only [List.length_cons, List.length_nil, Nat.zero_add, Nat.reduceAdd] at T2
  have D3 := hid (fun w => rdigits_any (u :: v) w (by simp only [List.length_cons]; omega))
  rw [hd] at D3
  simp only [List.length_cons] at D3
  clear hd
  rcases he with rfl | rfl
  all_goals
    go_enter Tryd.func32, Tryd.ntmps32
    go_wp2_with fail
    refine (D1.out _).mono ?_
    rintro e w' ⟨rfl, rfl⟩
    go_wp2_with (go_at_call 55; refine (D3.out _).mono ?_; rintro e w' ⟨rfl, rfl⟩)
    exact bodyPost_ret (v := five a 0 (u :: v) true true) (by simp [five, results, Tryd.results32, go_sem]) rfl ⟨rfl, rfl⟩
theorem rparts_exp_n2_3 (l a : List UInt8) (c : UInt8) (x : List UInt8) (w : World) (hl : l.length ≤ 9223372036854775806) (hxl : x.length + a.length + 1 = l.length) (hla : a.length = Db.digs l) (hc : c ≠ 46)
    (E1 : (⟨l.toArray⟩ : ByteArray).extract 0 a.length = ⟨a.toArray⟩) (E2 : (⟨l.toArray⟩ : ByteArray).extract a.length l.length = ⟨(c :: x).toArray⟩) (hz : 1 ≤ a.length) (u : UInt8) (v : List UInt8) (h1 : u ≠ 43) (h2 : u ≠ 45) (hd : Db.digs (u :: v) ≠ (u :: v).length) (hx : x = (u :: v)) (he : c = 101 ∨ c = 69) :
    Calls Tryd.prog 32 #[str l] w fun e w' => e = .returned (five [] 0 [] false false) ∧ w = w' := by
  subst hx
  have D1 := hid (fun w => rdigits_any l w (by omega))
  rw [← hla] at D1
  have hal : a.length ≤ l.length := by rw [hla]; exact Db.digs_le l
  have hcc := fun p => ba_get (c :: (u :: v)) 0 c rfl p
  have h46 : ((c.toNat : Int) == 46) = false := by rw [beq_eq_false_iff_ne]; intro e; exact hc (UInt8.toNat_inj.1 (by show c.toNat = 46; omega))
  have h46' : (c == 46) = false := beq_eq_false_iff_ne.2 hc
  clear hc
  clear hla
  have T1 := ba_tail c (u :: v)
  simp only [List.length_cons, List.length_nil, Nat.zero_add, Nat.reduceAdd] at T1
  have z0 : ((a.length : Int) == 0) = false := beq_eq_false_iff_ne.2 (by omega)
  simp only [List.length_cons, List.length_nil] at hxl hl
  have hc3 := fun p => ba_get (u :: v) 0 u rfl p
  have g1 : ((u.toNat : Int) == 43) = false := by rw [beq_eq_false_iff_ne]; intro e; exact h1 (UInt8.toNat_inj.1 (by show u.toNat = 43; omega))
  have g2 : ((u.toNat : Int) == 45) = false := by rw [beq_eq_false_iff_ne]; intro e; exact h2 (UInt8.toNat_inj.1 (by show u.toNat = 45; omega))
  clear h1 h2
  have D3 := hid (fun w => rdigits_any (u :: v) w (by simp only [List.length_cons]; omega))
  have g3 : ((Db.digs (u :: v) : Int) != ((v.length : Int) + 1)) = true := by rw [bne_iff_ne]; simp only [List.length_cons] at hd; omega
  obtain ⟨q, hq⟩ : ∃ q, q = Db.digs (u :: v) := ⟨_, rfl⟩
  rw [← hq] at D3 g3
  clear hd hq
  rcases he with rfl | rfl
  all_goals
    go_enter Tryd.func32, Tryd.ntmps32
    go_wp2_with fail
    refine (D1.out _).mono ?_
    rintro e w' ⟨rfl, rfl⟩
    go_wp2_with (go_at_call 55; refine (D3.out _).mono ?_; rintro e w' ⟨rfl, rfl⟩)
    exact bodyPost_ret (v := five [] 0 [] false false) (by simp [five, results, Tryd.results32, go_sem]) rfl ⟨rfl, rfl⟩
theorem rparts_exp_n3_3 (l a : List UInt8) (c : UInt8) (x : List UInt8) (w : World) (hl : l.length ≤ 9223372036854775806) (hxl : x.length + a.length + 1 = l.length) (hla : a.length = Db.digs l) (hc : c ≠ 46)
    (E1 : (⟨l.toArray⟩ : ByteArray).extract 0 a.length = ⟨a.toArray⟩) (E2 : (⟨l.toArray⟩ : ByteArray).extract a.length l.length = ⟨(c :: x).toArray⟩) (hz : 1 ≤ a.length) (u : UInt8) (v : List UInt8) (h1 : u ≠ 43) (h2 : u ≠ 45) (hd : Db.digs (u :: v) = (u :: v).length) (hx : x = (u :: v)) (he : c = 101 ∨ c = 69) :
    Calls Tryd.prog 32 #[str l] w fun e w' => e = .returned (five a 0 (u :: v) false true) ∧ w = w' := by
  subst hx
  have D1 := hid (fun w => rdigits_any l w (by omega))
  rw [← hla] at D1
  have hal : a.length ≤ l.length := by rw [hla]; exact Db.digs_le l
  have hcc := fun p => ba_get (c :: (u :: v)) 0 c rfl p
  have h46 : ((c.toNat : Int) == 46) = false := by rw [beq_eq_false_iff_ne]; intro e; exact hc (UInt8.toNat_inj.1 (by show c.toNat = 46; omega))
  have h46' : (c == 46) = false := beq_eq_false_iff_ne.2 hc
  clear hc
  clear hla
  have T1 := ba_tail c (u :: v)
  simp only [List.length_cons, List.length_nil, Nat.zero_add, Nat.reduceAdd] at T1
  have z0 : ((a.length : Int) == 0) = false := beq_eq_false_iff_ne.2 (by omega)
  simp only [List.length_cons, List.length_nil] at hxl hl
  have hc3 := fun p => ba_get (u :: v) 0 u rfl p
  have g1 : ((u.toNat : Int) == 43) = false := by rw [beq_eq_false_iff_ne]; intro e; exact h1 (UInt8.toNat_inj.1 (by show u.toNat = 43; omega))
  have g2 : ((u.toNat : Int) == 45) = false := by rw [beq_eq_false_iff_ne]; intro e; exact h2 (UInt8.toNat_inj.1 (by show u.toNat = 45; omega))
  clear h1 h2
  have D3 := hid (fun w => rdigits_any (u :: v) w (by simp only [List.length_cons]; omega))
  rw [hd] at D3
  simp only [List.length_cons] at D3
  clear hd
  rcases he with rfl | rfl
  all_goals
    go_enter Tryd.func32, Tryd.ntmps32
    go_wp2_with fail
    refine (D1.out _).mono ?_
    rintro e w' ⟨rfl, rfl⟩
    go_wp2_with (go_at_call 55; refine (D3.out _).mono ?_; rintro e w' ⟨rfl, rfl⟩)
    exact bodyPost_ret (v := five a 0 (u :: v) false true) (by simp [five, results, Tryd.results32, go_sem]) rfl ⟨rfl, rfl⟩

/-- What the text is made of: the digits, how many behind the point, the exponent's digits and sign. -/
def Db.fin (a b r : List UInt8) : Option (List UInt8 × Nat × List UInt8 × Bool) :=
  if a.length + b.length = 0 then none else
  match r with
  | [] => some (a ++ b, b.length, [], false)
  | c :: y => if c = 101 ∨ c = 69 then (if (Db.sign y).2 = [] ∨ Db.digs (Db.sign y).2 ≠ (Db.sign y).2.length then none else some (a ++ b, b.length, (Db.sign y).2, (Db.sign y).1)) else none
def pv : Option (List UInt8 × Nat × List UInt8 × Bool) → Value
  | none => five [] 0 [] false false
  | some (m, b, e, s) => five m b e s true
theorem rparts_1 (l a b x r : List UInt8) (w : World) (hl : l.length ≤ 9223372036854775806) (hxl : x.length + a.length + 1 = l.length) (hla : a.length = Db.digs l) (hlb : b.length = Db.digs x)
    (E1 : (⟨l.toArray⟩ : ByteArray).extract 0 a.length = ⟨a.toArray⟩) (E2 : (⟨l.toArray⟩ : ByteArray).extract a.length l.length = ⟨(46 :: x).toArray⟩) (E4 : (⟨(46 :: x).toArray⟩ : ByteArray).extract 1 (1 + b.length) = ⟨b.toArray⟩) (E5 : (⟨(46 :: x).toArray⟩ : ByteArray).extract (1 + b.length) (x.length + 1) = ⟨r.toArray⟩) (hrl : r.length ≤ x.length) :
    Calls Tryd.prog 32 #[str l] w fun e w' => e = .returned (pv (Db.fin a b r)) ∧ w = w' := by
  by_cases hz : a.length + b.length = 0
  · have e : Db.fin a b r = none := by unfold Db.fin; rw [if_pos hz]
    rw [e]
    exact rparts_none_1 l a b x r w hl hxl hla hlb E1 E2 E4 E5 hrl (by omega) (by omega)
  · have hz' : ¬ (a.length + (b : List UInt8).length = 0) := by simpa using hz
    cases r with
    | nil =>
      have e : Db.fin a b [] = some (a ++ b, b.length, [], false) := by unfold Db.fin; rw [if_neg hz']
      rw [e]
      exact rparts_plain_1 l a b x _ w hl hxl hla hlb E1 E2 E4 E5 hrl (by omega) rfl
    | cons c y =>
      by_cases he : c = 101 ∨ c = 69
      · cases y with
        | nil =>
          have e : Db.fin a b (c :: []) = none := by unfold Db.fin; rw [if_neg hz']; simp [he, Db.sign]
          rw [e]
          exact rparts_exp_e0_1 l a b x _ w hl hxl hla hlb E1 E2 E4 E5 hrl (by omega) c rfl he
        | cons s z =>
          by_cases hs : s = 43 ∨ s = 45
          · cases z with
            | nil =>
              have e : Db.fin a b (c :: [s]) = none := by unfold Db.fin; rw [if_neg hz']; rcases hs with rfl | rfl <;> simp [he, Db.sign]
              rw [e]
              exact rparts_exp_s1_1 l a b x _ w hl hxl hla hlb E1 E2 E4 E5 hrl (by omega) s hs c rfl he
            | cons u v =>
              by_cases hd : Db.digs (u :: v) = (u :: v).length
              · rcases hs with rfl | rfl
                · have e : Db.fin a b (c :: 43 :: u :: v) = some ((a ++ b), b.length, u :: v, false) := by unfold Db.fin; rw [if_neg hz']; simp only [List.length_cons] at hd; simp [he, Db.sign, hd]
                  rw [e]
                  exact rparts_exp_s3p_1 l a b x _ w hl hxl hla hlb E1 E2 E4 E5 hrl (by omega) u v hd c rfl he
                · have e : Db.fin a b (c :: 45 :: u :: v) = some ((a ++ b), b.length, u :: v, true) := by unfold Db.fin; rw [if_neg hz']; simp only [List.length_cons] at hd; simp [he, Db.sign, hd]
                  rw [e]
                  exact rparts_exp_s3m_1 l a b x _ w hl hxl hla hlb E1 E2 E4 E5 hrl (by omega) u v hd c rfl he
              · have e : Db.fin a b (c :: s :: u :: v) = none := by unfold Db.fin; rw [if_neg hz']; simp only [List.length_cons] at hd; rcases hs with rfl | rfl <;> simp [he, Db.sign, hd]
                rw [e]
                exact rparts_exp_s2_1 l a b x _ w hl hxl hla hlb E1 E2 E4 E5 hrl (by omega) s u v hs hd c rfl he
          · have h1 : s ≠ 43 := fun e => hs (Or.inl e)
            have h2 : s ≠ 45 := fun e => hs (Or.inr e)
            by_cases hd : Db.digs (s :: z) = (s :: z).length
            · have e : Db.fin a b (c :: s :: z) = some ((a ++ b), b.length, s :: z, false) := by unfold Db.fin; rw [if_neg hz']; simp only [List.length_cons] at hd; simp [he, Db.sign, hd, h1, h2]
              rw [e]
              exact rparts_exp_n3_1 l a b x _ w hl hxl hla hlb E1 E2 E4 E5 hrl (by omega) s z h1 h2 hd c rfl he
            · have e : Db.fin a b (c :: s :: z) = none := by unfold Db.fin; rw [if_neg hz']; simp only [List.length_cons] at hd; simp [he, Db.sign, hd, h1, h2]
              rw [e]
              exact rparts_exp_n2_1 l a b x _ w hl hxl hla hlb E1 E2 E4 E5 hrl (by omega) s z h1 h2 hd c rfl he
      · have n1 : c ≠ 101 := fun e => he (Or.inl e)
        have n2 : c ≠ 69 := fun e => he (Or.inr e)
        have e : Db.fin a b (c :: y) = none := by unfold Db.fin; rw [if_neg hz']; simp [n1, n2]
        rw [e]
        exact rparts_other_1 l a b x _ w hl hxl hla hlb E1 E2 E4 E5 hrl (by omega) c y rfl n1 n2
theorem rparts_3 (l a : List UInt8) (c : UInt8) (x : List UInt8) (w : World) (hl : l.length ≤ 9223372036854775806) (hxl : x.length + a.length + 1 = l.length) (hla : a.length = Db.digs l) (hc : c ≠ 46)
    (E1 : (⟨l.toArray⟩ : ByteArray).extract 0 a.length = ⟨a.toArray⟩) (E2 : (⟨l.toArray⟩ : ByteArray).extract a.length l.length = ⟨(c :: x).toArray⟩) :
    Calls Tryd.prog 32 #[str l] w fun e w' => e = .returned (pv (Db.fin a [] (c :: x))) ∧ w = w' := by
  by_cases hz : a.length + 0 = 0
  · have e : Db.fin a [] (c :: x) = none := by unfold Db.fin; rw [if_pos (by simpa using hz)]
    rw [e]
    exact rparts_none_3 l a c x w hl hxl hla hc E1 E2 (by omega)
  · have hz' : ¬ (a.length + ([] : List UInt8).length = 0) := by simpa using hz
    by_cases he : c = 101 ∨ c = 69
    · cases x with
      | nil =>
        have e : Db.fin a [] (c :: []) = none := by unfold Db.fin; rw [if_neg hz']; simp [he, Db.sign]
        rw [e]
        exact rparts_exp_e0_3 l a c _ w hl hxl hla hc E1 E2 (by omega) rfl he
      | cons s z =>
        by_cases hs : s = 43 ∨ s = 45
        · cases z with
          | nil =>
            have e : Db.fin a [] (c :: [s]) = none := by unfold Db.fin; rw [if_neg hz']; rcases hs with rfl | rfl <;> simp [he, Db.sign]
            rw [e]
            exact rparts_exp_s1_3 l a c _ w hl hxl hla hc E1 E2 (by omega) s hs rfl he
          | cons u v =>
            by_cases hd : Db.digs (u :: v) = (u :: v).length
            · rcases hs with rfl | rfl
              · have e : Db.fin a [] (c :: 43 :: u :: v) = some (a, 0, u :: v, false) := by unfold Db.fin; rw [if_neg hz']; simp only [List.length_cons] at hd; simp [he, Db.sign, hd]
                rw [e]
                exact rparts_exp_s3p_3 l a c _ w hl hxl hla hc E1 E2 (by omega) u v hd rfl he
              · have e : Db.fin a [] (c :: 45 :: u :: v) = some (a, 0, u :: v, true) := by unfold Db.fin; rw [if_neg hz']; simp only [List.length_cons] at hd; simp [he, Db.sign, hd]
                rw [e]
                exact rparts_exp_s3m_3 l a c _ w hl hxl hla hc E1 E2 (by omega) u v hd rfl he
            · have e : Db.fin a [] (c :: s :: u :: v) = none := by unfold Db.fin; rw [if_neg hz']; simp only [List.length_cons] at hd; rcases hs with rfl | rfl <;> simp [he, Db.sign, hd]
              rw [e]
              exact rparts_exp_s2_3 l a c _ w hl hxl hla hc E1 E2 (by omega) s u v hs hd rfl he
        · have h1 : s ≠ 43 := fun e => hs (Or.inl e)
          have h2 : s ≠ 45 := fun e => hs (Or.inr e)
          by_cases hd : Db.digs (s :: z) = (s :: z).length
          · have e : Db.fin a [] (c :: s :: z) = some (a, 0, s :: z, false) := by unfold Db.fin; rw [if_neg hz']; simp only [List.length_cons] at hd; simp [he, Db.sign, hd, h1, h2]
            rw [e]
            exact rparts_exp_n3_3 l a c _ w hl hxl hla hc E1 E2 (by omega) s z h1 h2 hd rfl he
          · have e : Db.fin a [] (c :: s :: z) = none := by unfold Db.fin; rw [if_neg hz']; simp only [List.length_cons] at hd; simp [he, Db.sign, hd, h1, h2]
            rw [e]
            exact rparts_exp_n2_3 l a c _ w hl hxl hla hc E1 E2 (by omega) s z h1 h2 hd rfl he
    · have n1 : c ≠ 101 := fun e => he (Or.inl e)
      have n2 : c ≠ 69 := fun e => he (Or.inr e)
      have e : Db.fin a [] (c :: x) = none := by unfold Db.fin; rw [if_neg hz']; simp [n1, n2]
      rw [e]
      exact rparts_other_3 l a c x w hl hxl hla hc E1 E2 (by omega) n1 n2

theorem rparts_any (l : List UInt8) (w : World) (hl : l.length ≤ 9223372036854775806) :
    Calls Tryd.prog 32 #[str l] w fun e w' => e = .returned (pv (Db.fin (Db.cut l).1 (Db.cut l).2.1 (Db.cut l).2.2)) ∧ w = w' := by
  have hd := Db.digs_le l
  have hta : (l.take (Db.digs l)).length = Db.digs l := by rw [List.length_take]; omega
  have E1 := ba_take l (Db.digs l)
  have E2 := ba_drop l (Db.digs l)
  cases hr : l.drop (Db.digs l) with
  | nil =>
    rw [Db.cut_nil hr]
    rw [hr] at E2
    by_cases hz : (l.take (Db.digs l)).length = 0
    · have e : Db.fin (l.take (Db.digs l)) [] [] = none := by unfold Db.fin; rw [if_pos (by simpa using hz)]
      show Calls Tryd.prog 32 #[str l] w fun e w' => e = .returned (pv (Db.fin (l.take (Db.digs l)) [] [])) ∧ w = w'
      rw [e]
      exact rparts_none_2 l _ w hl hta (by rw [hta]; exact E1) (by rw [hta]; exact E2) hz
    · have e : Db.fin (l.take (Db.digs l)) [] [] = some (l.take (Db.digs l), 0, [], false) := by unfold Db.fin; rw [if_neg (by simpa using hz)]; simp
      show Calls Tryd.prog 32 #[str l] w fun e w' => e = .returned (pv (Db.fin (l.take (Db.digs l)) [] [])) ∧ w = w'
      rw [e]
      exact rparts_plain_2 l _ w hl hta (by rw [hta]; exact E1) (by rw [hta]; exact E2) (by omega)
  | cons c x =>
    have hlen : (c :: x).length = l.length - Db.digs l := by rw [← hr, List.length_drop]
    simp only [List.length_cons] at hlen
    rw [hr] at E2
    by_cases hc : c = 46
    · subst hc
      rw [Db.cut_pt hr]
      have hd2 := Db.digs_le x
      have htb : (x.take (Db.digs x)).length = Db.digs x := by rw [List.length_take]; omega
      exact rparts_1 l (l.take (Db.digs l)) (x.take (Db.digs x)) x (x.drop (Db.digs x)) w hl (by omega) hta htb (by rw [hta]; exact E1) (by rw [hta]; exact E2) (by rw [htb, ba_extract]; simp) (by rw [htb, Nat.add_comm 1]; exact ba_drop (46 :: x) (Db.digs x + 1)) (by rw [List.length_drop]; omega)
    · rw [Db.cut_no hr hc]
      exact rparts_3 l (l.take (Db.digs l)) c x w hl (by omega) hta hc (by rw [hta]; exact E1) (by rw [hta]; exact E2)
end Go.Proofs.YtmooppakneoidaaDoor
