/- A literal's text, escaped, as term builds it. -/
import Derived.Test.YtmfnbmbedplgcaaGreatDoorTerm
import Derived.Deep.RegionLaw
namespace Go.Proofs.YtmfnbmbedplgcaaGreatDoor
set_option linter.unusedVariables false
set_option linter.unusedSimpArgs false
set_option maxRecDepth 100000
open Go.ChangeShapes Go.WideShapes Go.ChangeAt Go.RowKit

theorem Tryz.info5 : (Tryz.prog.info? 5).map (fun i => (i.zero, i.size, i.bytes)) = some (some (.int .u8 0), 1, 1) := by kernel_rfl
/-- A byte as a cell. -/
def byv (c : UInt8) : Value := .int .u8 (c.toNat : Nat)
/-- append of k elements of one cell each, which stand in a new block. -/
theorem wpList_append_many {w : World} {P : Program} {ops : Array Oper} {rest : List Oper} {o : Oper} {a : Act} {Q : Exit → Act → World → Prop} (hgd : o.guard = none) (s x : Operand) (t : TypeId)
    (ho : o.op = .call { callee := .builtin .append, args := #[s, x], argTypes := #[t, t] })
    (base : Nat) (e : TypeId) (i : TypeInfo) (z : Value) (bytes : Nat) (ht : P.underlying t = some (.slice e)) (hi : P.info? e = some i) (hz : i.zero = some z)
    (hsize : i.size = 1) (hby : i.bytes = bytes) (hzs : z.cells.size = 1)
    (v : Value) (n : Nat) (xs : List Value) (us : List Value) (m : Nat) (hm : m = us.length) (W : World) (hw : w = W.alloc (.cells us.toArray e)) (hs : a.eval s = v) (hown : W.ownsRow base e 1 v n xs)
    (H : Nat) (hH : W.heap.size = H) (hx : a.eval x = .slice (some ⟨H, 0, none⟩) m m) (h1 : ∀ u ∈ us, u.oneCell' = true)
    (h63 : n + m ≤ maxLen) (hbytes : (n + m) * bytes ≤ 140737488355328) (hbase : base ≤ W.heap.size)
    (h : ∀ v' w', w'.ownsRow base e 1 v' (n + m) (xs ++ us) → W.grownBy w' v.ownBlock → Moved W v v' → wpList P ops Q rest (a.put o.dst v') w') : wpList P ops Q (o :: rest) a w := by
  subst hw
  subst hm
  subst hH
  have hs1 : (W.alloc (.cells us.toArray e)).heap.size = W.heap.size + 1 := by simp
  refine wpList_append_blk hgd s x t ho base e i z 1 bytes ht hi hz hsize hby hzs (by decide) v n xs hs (hown.alloc _) (some ⟨W.heap.size, 0, none⟩) us.length us.length us hx (fun h => by cases h) (by simp) ?_ h1 h63 hbytes (by omega) (fun v' w' a b c => h v' w' a ?_ ?_)
  · intro ad had j u' hu
    cases had
    rw [add_cell rfl]
    rw [Nat.zero_add, cell_new]
    simpa using hu
  · refine ⟨b.os, b.tape, b.output, by have := b.size; omega, fun k hk hne => ?_⟩
    rw [b.block k (by omega) hne, Below.heap_alloc _ _ _ hk]
  · rcases c with c | ⟨k, c, d⟩
    · exact Or.inl c
    · exact Or.inr ⟨k, c, by omega⟩
/-- The same, at a step of a region that draws. -/
theorem step_append_many {w : World} {P : Program} {ops : Array Oper} {o : Oper} {a : Act} {K : Act → World → Prop} {Q : Exit → Act → World → Prop} {E : Prop} (hgd : o.guard = none) (s x : Operand) (t : TypeId)
    (ho : o.op = .call { callee := .builtin .append, args := #[s, x], argTypes := #[t, t] })
    (base : Nat) (e : TypeId) (i : TypeInfo) (z : Value) (bytes : Nat) (ht : P.underlying t = some (.slice e)) (hi : P.info? e = some i) (hz : i.zero = some z)
    (hsize : i.size = 1) (hby : i.bytes = bytes) (hzs : z.cells.size = 1)
    (v : Value) (n : Nat) (xs : List Value) (us : List Value) (m : Nat) (hm : m = us.length) (W : World) (hw : w = (W.alloc (.cells us.toArray e)).drew) (hs : a.eval s = v) (hown : W.ownsRow base e 1 v n xs)
    (H : Nat) (hH : W.heap.size = H) (hx : a.eval x = .slice (some ⟨H, 0, none⟩) m m) (h1 : ∀ u ∈ us, u.oneCell' = true)
    (h63 : n + m ≤ maxLen) (hbytes : (n + m) * bytes ≤ 140737488355328) (hbase : base ≤ W.heap.size)
    (h : ∀ v' w', w'.ownsRow base e 1 v' (n + m) (xs ++ us) → W.grownBy w' v.ownBlock → Moved W v v' → K (a.put o.dst v') w') :
    if Region.wanted o (yielded ops a.tmps) = true then Oper.wp P o a w K Q else E := by
  have hwd : Region.wanted o (yielded ops a.tmps) = true := by simp [Region.wanted, hgd]
  rw [if_pos hwd]
  subst hw
  subst hm
  subst hH
  obtain ⟨v', w', hr, h2, h3, h4⟩ := run_append_blk (P := P) (w := (W.alloc (.cells us.toArray e)).drew) base t o.type e i z 1 bytes ht hi hz hsize hby hzs (by decide) v n xs (hown.alloc _) ⟨W.heap.size, 0, none⟩ us.length us.length us (by simp) (by
    intro j u' hu
    rw [add_cell rfl, Nat.zero_add]
    show (W.alloc (Obj.cells us.toArray e)).cell? ⟨W.heap.size, j, none⟩ = some u'
    rw [cell_new]
    simpa using hu) h1 h63 hbytes (by simp; omega)
  have hk := h v' w' h2 ⟨h3.os, h3.tape, h3.output, by have := h3.size; simp at this; omega, fun k hk hne => by rw [h3.block k (by simp; omega) hne]; show (W.alloc (Obj.cells us.toArray e)).heap[k]? = _; rw [Below.heap_alloc _ _ _ hk]⟩ (by
    rcases h4 with c | ⟨k, c, d⟩
    · exact Or.inl c
    · exact Or.inr ⟨k, c, by simp at d; omega⟩)
  unfold Oper.wp execOp
  simp only [ho, resolve, invoke, builtin, Sem.run_bind, Sem.run_pure, Result.andThen_ok, List.map_toArray, List.map_cons, List.map_nil, hs, hx, hr]
  exact hk
/-- What one byte adds. -/
def EscPost (W : World) (base : Nat) (v : Value) (n : Nat) (xs : List Value) (c : UInt8) (e : Ending) (W' : World) : Prop :=
  ∃ v', e = .returned v' ∧ W'.ownsRow base 5 1 v' (n + (Tm.esc c).length) (xs ++ (Tm.esc c).map byv) ∧ W.grownBy W' v.ownBlock ∧ Moved W v v'
theorem hex_at (k : Nat) (h : k < 16) (p : k < (⟨#[48, 49, 50, 51, 52, 53, 54, 55, 56, 57, 65, 66, 67, 68, 69, 70]⟩ : ByteArray).size) : (⟨#[48, 49, 50, 51, 52, 53, 54, 55, 56, 57, 65, 66, 67, 68, 69, 70]⟩ : ByteArray)[k] = Tm.hexd k := by
  have : ∀ k : Fin 16, (⟨#[48, 49, 50, 51, 52, 53, 54, 55, 56, 57, 65, 66, 67, 68, 69, 70]⟩ : ByteArray)[k.val] = Tm.hexd k.val := by decide
  exact this ⟨k, h⟩
theorem esc_two (d : UInt8) : ([Value.int .u8 92, byv d] : List Value) = [92, d].map byv := rfl
set_option maxHeartbeats 1000000 in
theorem esc_fix (c d : UInt8) (h : (c = 34 ∧ d = 34) ∨ (c = 92 ∧ d = 92) ∨ (c = 10 ∧ d = 110) ∨ (c = 13 ∧ d = 114) ∨ (c = 9 ∧ d = 116) ∨ (c = 8 ∧ d = 98) ∨ (c = 12 ∧ d = 102)) (a : Option Addr) (n cap : Nat) (xs : List Value) (base : Nat) (W : World) (hown : W.ownsRow base 5 1 (.slice a n cap) n xs) (hn : n + 2 ≤ 100000000000) (hb : base ≤ W.heap.size) :
    Calls Tryz.prog 81 #[.slice a n cap, .int .u8 (c.toNat : Nat)] W (EscPost W base (.slice a n cap) n xs c) := by
  obtain ⟨i0, hi, hz0, hz1, hz2⟩ := info_parts Tryz.info5
  have HO := hid hown
  clear hown
  rcases h with ⟨rfl, rfl⟩ | ⟨rfl, rfl⟩ | ⟨rfl, rfl⟩ | ⟨rfl, rfl⟩ | ⟨rfl, rfl⟩ | ⟨rfl, rfl⟩ | ⟨rfl, rfl⟩
  all_goals
    go_enter Tryz.func81, Tryz.ntmps81
    go_wp2_with (at_builtin; refine wpList_append_many rfl _ _ 57 rfl base 5 i0 _ 1 Tryz.underlying57 hi hz0 hz1 hz2 rfl (.slice a n cap) n xs _ 2 (by rfl) W rfl rfl HO.out W.heap.size rfl rfl ?one ?b1 ?b2 hb ?_)
    case one => intro u hu; simp at hu; rcases hu with rfl | rfl <;> rfl
    case b1 => unfold maxLen; omega
    case b2 => omega
    intro v1 w1 hown hgr hmv
    have O1 := hid hown
    clear hown
    go_wp2
    go_ret
    exact ⟨_, rfl, O1.out, hgr, hmv⟩
/-- Bytes that are none of the seven. -/
def NoFix (c : UInt8) : Prop := c.toNat ≠ 34 ∧ c.toNat ≠ 92 ∧ c.toNat ≠ 10 ∧ c.toNat ≠ 13 ∧ c.toNat ≠ 9 ∧ c.toNat ≠ 8 ∧ c.toNat ≠ 12
theorem esc_six (c : UInt8) (h : NoFix c) (hl : c.toNat < 32 ∨ c.toNat = 127) : Tm.esc c = [92, 117, 48, 48, Tm.hexd (c.toNat / 16), Tm.hexd (c.toNat % 16)] := by
  obtain ⟨h1, h2, h3, h4, h5, h6, h7⟩ := h
  have e : ∀ d : UInt8, c.toNat ≠ d.toNat → c ≠ d := fun d hn he => hn (by rw [he])
  unfold Tm.esc
  rw [if_neg (by rintro (h | h); exact e 34 h1 h; exact e 92 h2 h), if_neg (e 10 h3), if_neg (e 13 h4), if_neg (e 9 h5), if_neg (e 8 h6), if_neg (e 12 h7), if_pos]
  rcases hl with h | h
  · exact .inl h
  · exact .inr (UInt8.toNat_inj.1 h)
theorem esc_self (c : UInt8) (h : NoFix c) (hl : 32 ≤ c.toNat ∧ c.toNat ≠ 127) : Tm.esc c = [c] := by
  obtain ⟨h1, h2, h3, h4, h5, h6, h7⟩ := h
  have e : ∀ d : UInt8, c.toNat ≠ d.toNat → c ≠ d := fun d hn he => hn (by rw [he])
  exact Tm.esc_plain c hl.1 (e 127 hl.2) (e 34 h1) (e 92 h2)
set_option maxHeartbeats 1000000 in
theorem esc_plain_any (c : UInt8) (h : NoFix c) (hl : 32 ≤ c.toNat ∧ c.toNat ≠ 127) (a : Option Addr) (n cap : Nat) (xs : List Value) (base : Nat) (W : World) (hown : W.ownsRow base 5 1 (.slice a n cap) n xs) (hn : n + 2 ≤ 100000000000) (hb : base ≤ W.heap.size) :
    Calls Tryz.prog 81 #[.slice a n cap, .int .u8 (c.toNat : Nat)] W (EscPost W base (.slice a n cap) n xs c) := by
  obtain ⟨i0, hi, hz0, hz1, hz2⟩ := info_parts Tryz.info5
  have HO := hid hown
  have HS := hid (esc_self c h hl)
  obtain ⟨h1, h2, h3, h4, h5, h6, h7⟩ := h
  obtain ⟨h8, h9⟩ := hl
  have b1 : ((c.toNat : Int) == 34) = false := beq_eq_false_iff_ne.2 (by omega)
  have b2 : ((c.toNat : Int) == 92) = false := beq_eq_false_iff_ne.2 (by omega)
  have b3 : ((c.toNat : Int) == 10) = false := beq_eq_false_iff_ne.2 (by omega)
  have b4 : ((c.toNat : Int) == 13) = false := beq_eq_false_iff_ne.2 (by omega)
  have b5 : ((c.toNat : Int) == 9) = false := beq_eq_false_iff_ne.2 (by omega)
  have b6 : ((c.toNat : Int) == 8) = false := beq_eq_false_iff_ne.2 (by omega)
  have b7 : ((c.toNat : Int) == 12) = false := beq_eq_false_iff_ne.2 (by omega)
  have b9 : ((c.toNat : Int) == 127) = false := beq_eq_false_iff_ne.2 (by omega)
  clear hown h1 h2 h3 h4 h5 h6 h7 h9
  go_enter Tryz.func81, Tryz.ntmps81
  go_wp2_with (at_builtin; refine wpList_append_many rfl _ _ 57 rfl base 5 i0 _ 1 Tryz.underlying57 hi hz0 hz1 hz2 rfl (.slice a n cap) n xs [byv c] 1 (by rfl) W rfl rfl HO.out W.heap.size rfl rfl ?one ?b1 ?b2 hb ?_)
  case one => intro u hu; simp at hu; rw [hu]; rfl
  case b1 => unfold maxLen; omega
  case b2 => omega
  intro v1 w1 hown hgr hmv
  have O1 := hid hown
  clear hown
  go_wp2
  go_ret
  exact ⟨_, rfl, by rw [HS.out]; exact O1.out, hgr, hmv⟩
set_option maxHeartbeats 1000000 in
theorem esc_hex_any (c : UInt8) (h : NoFix c) (hl : c.toNat < 32 ∨ c.toNat = 127) (a : Option Addr) (n cap : Nat) (xs : List Value) (base : Nat) (W : World) (hown : W.ownsRow base 5 1 (.slice a n cap) n xs) (hn : n + 6 ≤ 100000000000) (hb : base ≤ W.heap.size) :
    Calls Tryz.prog 81 #[.slice a n cap, .int .u8 (c.toNat : Nat)] W (EscPost W base (.slice a n cap) n xs c) := by
  obtain ⟨i0, hi, hz0, hz1, hz2⟩ := info_parts Tryz.info5
  have HO := hid hown
  have HS := hid (esc_six c h hl)
  obtain ⟨h1, h2, h3, h4, h5, h6, h7⟩ := h
  have b1 : ((c.toNat : Int) == 34) = false := beq_eq_false_iff_ne.2 (by omega)
  have b2 : ((c.toNat : Int) == 92) = false := beq_eq_false_iff_ne.2 (by omega)
  have b3 : ((c.toNat : Int) == 10) = false := beq_eq_false_iff_ne.2 (by omega)
  have b4 : ((c.toNat : Int) == 13) = false := beq_eq_false_iff_ne.2 (by omega)
  have b5 : ((c.toNat : Int) == 9) = false := beq_eq_false_iff_ne.2 (by omega)
  have b6 : ((c.toNat : Int) == 8) = false := beq_eq_false_iff_ne.2 (by omega)
  have b7 : ((c.toNat : Int) == 12) = false := beq_eq_false_iff_ne.2 (by omega)
  have hc128 : c.toNat < 128 := by omega
  clear hown h1 h2 h3 h4 h5 h6 h7
  have hand : bits BinOp.and IntKind.u8 (c.toNat : Int) 15 = ((c.toNat % 16 : Nat) : Int) := by
    have := u8_and_nat c.toNat 15 (by omega) (by omega)
    rw [show (15 : Int) = ((15 : Nat) : Int) from rfl, this, show c.toNat &&& 15 = c.toNat % 16 from Nat.and_two_pow_sub_one_eq_mod c.toNat 4]
  have hsh : (c.toNat : Int) / 16 = ((c.toNat / 16 : Nat) : Int) := by omega
  have hq : c.toNat / 16 < 16 := by omega
  have hr : c.toNat % 16 < 16 := by omega
  obtain ⟨k1, hk1⟩ : ∃ k, k = c.toNat / 16 := ⟨_, rfl⟩
  obtain ⟨k2, hk2⟩ : ∃ k, k = c.toNat % 16 := ⟨_, rfl⟩
  rw [← hk1] at hsh hq HS
  rw [← hk2] at hand hr HS
  have hq1 := fun p => hex_at k1 hq p
  have hr1 := fun p => hex_at k2 hr p
  have hqz : (k1 : Int) < 16 := by omega
  have hrz : (k2 : Int) < 16 := by omega
  have hqz0 : (0 : Int) ≤ (k1 : Int) := by omega
  have hrz0 : (0 : Int) ≤ (k2 : Int) := by omega
  clear hk1 hk2
  rcases hl with h8 | h8
  · go_enter Tryz.func81, Tryz.ntmps81
    go_wp2
    go_region_law ((refine step_append_many (by rfl) _ _ 57 (by rfl) base 5 i0 _ 1 Tryz.underlying57 hi hz0 hz1 hz2 rfl (.slice a n cap) n xs [.int .u8 92, .int .u8 117, .int .u8 48, .int .u8 48, byv (Tm.hexd k1), byv (Tm.hexd k2)] 6 (by rfl) _ (by rfl) (by rfl) HO.out _ (by rfl) (by rfl) (by intro u hu; simp at hu; rcases hu with rfl | rfl | rfl | rfl | rfl | rfl <;> rfl) (by unfold maxLen; omega) (by omega) hb ?_; intro v1 w1 hown hgr hmv))
    all_goals
      have O1 := hid hown
      clear hown
      go_wp2
      go_ret
      exact ⟨_, rfl, by rw [HS.out]; exact O1.out, hgr, hmv⟩
  · have b10 : ((c.toNat : Int) == 127) = true := beq_iff_eq.2 (by omega)
    have h9 : 32 ≤ c.toNat := by omega
    clear h8
    go_enter Tryz.func81, Tryz.ntmps81
    go_wp2
    go_region_law ((refine step_append_many (by rfl) _ _ 57 (by rfl) base 5 i0 _ 1 Tryz.underlying57 hi hz0 hz1 hz2 rfl (.slice a n cap) n xs [.int .u8 92, .int .u8 117, .int .u8 48, .int .u8 48, byv (Tm.hexd k1), byv (Tm.hexd k2)] 6 (by rfl) _ (by rfl) (by rfl) HO.out _ (by rfl) (by rfl) (by intro u hu; simp at hu; rcases hu with rfl | rfl | rfl | rfl | rfl | rfl <;> rfl) (by unfold maxLen; omega) (by omega) hb ?_; intro v1 w1 hown hgr hmv))
    all_goals
      have O1 := hid hown
      clear hown
      go_wp2
      go_ret
      exact ⟨_, rfl, by rw [HS.out]; exact O1.out, hgr, hmv⟩
theorem esc_any (c : UInt8) (v : Value) (n : Nat) (xs : List Value) (base : Nat) (W : World) (hown : W.ownsRow base 5 1 v n xs) (hn : n + 6 ≤ 100000000000) (hb : base ≤ W.heap.size) :
    Calls Tryz.prog 81 #[v, .int .u8 (c.toNat : Nat)] W (EscPost W base v n xs c) := by
  obtain ⟨a, cap, rfl, _, _, _, _⟩ := rowAt_own hown
  by_cases h : NoFix c
  · by_cases hl : c.toNat < 32 ∨ c.toNat = 127
    · exact esc_hex_any c h hl a n cap xs base W hown hn hb
    · exact esc_plain_any c h (by omega) a n cap xs base W hown (by omega) hb
  · unfold NoFix at h
    have h : c.toNat = 34 ∨ c.toNat = 92 ∨ c.toNat = 10 ∨ c.toNat = 13 ∨ c.toNat = 9 ∨ c.toNat = 8 ∨ c.toNat = 12 := by omega
    have e : ∀ d : UInt8, c.toNat = d.toNat → c = d := fun d hd => UInt8.toNat_inj.1 hd
    rcases h with h | h | h | h | h | h | h
    · obtain rfl := e 34 h; exact esc_fix 34 34 (by simp) a n cap xs base W hown (by omega) hb
    · obtain rfl := e 92 h; exact esc_fix 92 92 (by simp) a n cap xs base W hown (by omega) hb
    · obtain rfl := e 10 h; exact esc_fix 10 110 (by simp) a n cap xs base W hown (by omega) hb
    · obtain rfl := e 13 h; exact esc_fix 13 114 (by simp) a n cap xs base W hown (by omega) hb
    · obtain rfl := e 9 h; exact esc_fix 9 116 (by simp) a n cap xs base W hown (by omega) hb
    · obtain rfl := e 8 h; exact esc_fix 8 98 (by simp) a n cap xs base W hown (by omega) hb
    · obtain rfl := e 12 h; exact esc_fix 12 102 (by simp) a n cap xs base W hown (by omega) hb
theorem byv_nat (l : List UInt8) : l.map byv = (l.map UInt8.toNat).map u8v := by simp [byv, u8v, List.map_map, Function.comp_def]
theorem strOf_toNat (l : List UInt8) : Value.string (strOf (l.map UInt8.toNat)) = str l := by
  simp [strOf, str, List.map_map, Function.comp_def]
theorem conv_own {w : World} {base n : Nat} {v : Value} {l : List UInt8} (h : w.ownsRow base 5 1 v n (l.map byv)) (hn : n = l.length) : (convert 57 9 v).run Tryz.prog w = .ok (str l) w := by
  rw [byv_nat] at h
  have := conv_row (P := Tryz.prog) Tryz.underlying57 Tryz.underlying5 Tryz.underlying9 w v (l.map UInt8.toNat) (SlAt.own h (by simpa using hn))
  rw [this, strOf_toNat]
theorem escs_take_succ (s : List UInt8) (k : Nat) (c : UInt8) (h : s[k]? = some c) : Tm.escs (s.take (k + 1)) = Tm.escs (s.take k) ++ Tm.esc c := by
  rw [List.take_add_one, h, Tm.escs_append]; simp [Tm.escs]
end Go.Proofs.YtmfnbmbedplgcaaGreatDoor
