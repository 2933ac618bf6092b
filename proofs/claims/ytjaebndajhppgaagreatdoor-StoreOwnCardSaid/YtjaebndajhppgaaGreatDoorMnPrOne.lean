/-PrOne-/
import Derived.Test.YtjaebndajhppgaaGreatDoorMnGPr4
import Derived.Test.YtjaebndajhppgaaGreatDoorMnGLn1
set_option linter.unusedVariables false
set_option linter.unusedSimpArgs false
set_option maxRecDepth 100000
set_option maxHeartbeats 2000000
namespace Go.Proofs.YtjaebndajhppgaaGreatDoor
open Go.ChangeShapes Go.WideShapes Go.ChangeAt Go.RowKit
theorem one_ret {fn:Func} {tmps:Array Value} {Z:World} {b:Nat} {v0 v1 v2 v3 v4 v5 v6 v7 v8 u1 u2:Value} (ht:tmps.getD 2 undef=.pointer (some ⟨b,0,none⟩)) (h3:tmps.getD 3 undef=u1) (h4:tmps.getD 4 undef=u2) (hZ:Blk Z b [v0,v1,v2,v3,v4,v5,v6,v7,v8] 67) (hf:fn.results=#[.cell 2 67,.tmp 3,.tmp 4]) :
  (results fn tmps).run Tryz.prog Z=.ok (.tuple #[.agg #[v0,v1,v2,v3,v4,v5,v6,v7,v8],u1,u2]) Z:=by
 have h0:=hZ.cell (i:=0) rfl
 have h1:=hZ.cell (i:=1) rfl
 have h2:=hZ.cell (i:=2) rfl
 have h4':=hZ.cell (i:=3) rfl
 have h5:=hZ.cell (i:=4) rfl
 have h6:=hZ.cell (i:=5) rfl
 have h7:=hZ.cell (i:=6) rfl
 have h8:=hZ.cell (i:=7) rfl
 have h9:=hZ.cell (i:=8) rfl
 have ht':tmps[2]?.getD undef=.pointer (some ⟨b,0,none⟩):=by simpa using ht
 have h3':tmps[3]?.getD undef=u1:=by simpa using h3
 have h4'':tmps[4]?.getD undef=u2:=by simpa using h4
 simp [results,hf,ht',h3',h4'',go_sem,h0,h1,h2,h4',h5,h6,h7,h8,h9]
theorem below_set {w X:World} {b:Nat} (h:Below w.heap.size w X) (hb:w.heap.size≤b) (i:Nat) (v:Value):Below w.heap.size w (X.setCell ⟨b,i,none⟩ v):=h.setCell hb v
def oneV:Option (Option (Tm.T3×Tm.T3×Tm.T3))→Value
 | none=>.tuple #[.agg z9.toArray,.bool false,.bool false]
 | some none=>.tuple #[.agg z9.toArray,.bool false,.bool true]
 | some (some (a,b,c))=>.tuple #[triV (a.1:Nat) a.2.1 a.2.2 (b.1:Nat) b.2.1 b.2.2 (c.1:Nat) c.2.1 c.2.2,.bool true,.bool true]
theorem isTri_I (a b c:Tm.T3):isTriI (a.1:Nat) a.2.1 a.2.2 (b.1:Nat) b.2.1 b.2.2 (c.1:Nat) c.2.1 c.2.2=Tm.isTri (a,b,c):=by
 unfold isTriI Tm.isTri Tm.isT
 simp only
 congr 2
 · rw [decide_eq_decide];omega
 · rw [decide_eq_decide];omega
theorem rtri_len {s:List UInt8} {a b c:Tm.T3} {v:List UInt8} (h:Tm.rtri s=some ((a,b,c),v)):(a.2.1.length≤4*s.length∧a.2.2.length≤4*s.length)∧(b.2.1.length≤4*s.length∧b.2.2.length≤4*s.length)∧(c.2.1.length≤4*s.length∧c.2.2.length≤4*s.length)∧(1≤a.1∧a.1≤5)∧(1≤b.1∧b.1≤5)∧(1≤c.1∧c.1≤5):=by
 unfold Tm.rtri at h
 cases h1:Tm.rt s with
 | none=>rw [h1] at h;cases h
 | some p=>
  obtain ⟨a',r⟩:=p
  rw [h1] at h
  simp only at h
  have g1:=Tm.rt_len h1
  cases h2:Tm.rt r with
  | none=>rw [h2] at h;cases h
  | some p=>
   obtain ⟨b',u⟩:=p
   rw [h2] at h
   simp only at h
   have g2:=Tm.rt_len h2
   cases h3:Tm.rt u with
   | none=>rw [h3] at h;cases h
   | some p=>
    obtain ⟨c',z⟩:=p
    rw [h3] at h
    simp only at h
    have g3:=Tm.rt_len h3
    cases h4:Tm.point z with
    | none=>rw [h4] at h;cases h
    | some y=>
     rw [h4] at h
     simp only [Option.some.injEq,Prod.mk.injEq] at h
     obtain ⟨⟨rfl,rfl,rfl⟩,rfl⟩:=h
     omega
theorem pone_bad (s:List UInt8) (w:World) (hV:Vars w) (hE:ErrAt w) (hl:s.length≤1000000) (h1:Lib.validD s=false) :
  Calls Tryz.prog 84 #[str s] w fun e w'=>e=.returned (oneV (Tm.one s))∧Below w.heap.size w w':=by
 have HN:=hid (show Tm.one s=none by unfold Tm.one;rw [if_pos h1])
 have VA:=hid (fun w h=>valid_any s w (by omega) h)
 have HB1:=hid (show Below w.heap.size w (w.alloc (.cells z9.toArray 67)) from (Below.refl _ _).alloc (Nat.le_refl _) _)
 have HT1:=hid (Blk.new w z9 67)
 have HV:=hid hV
 have HE:=hid hE
 rw [h1] at VA
 clear hV hE h1
 go_enter Tryz.func84,Tryz.ntmps84
 go_wp2_with fail
 refine (VA.out _ (HV.out.keep HB1.out).1).mono ?_
 rintro e w2 ⟨rfl,hb2⟩
 have HB2:=hid (below_then HB1.out hb2)
 have HT2:=hid (HT1.out.keep hb2)
 clear hb2
 have g0:=HT2.out.cell (i:=0) rfl
 have g1:=HT2.out.cell (i:=1) rfl
 have g2:=HT2.out.cell (i:=2) rfl
 have g3:=HT2.out.cell (i:=3) rfl
 have g4:=HT2.out.cell (i:=4) rfl
 have g5:=HT2.out.cell (i:=5) rfl
 have g6:=HT2.out.cell (i:=6) rfl
 have g7:=HT2.out.cell (i:=7) rfl
 have g8:=HT2.out.cell (i:=8) rfl
 have k0:=HT2.out.free 0
 have k1:=HT2.out.free 1
 have k2:=HT2.out.free 2
 have k3:=HT2.out.free 3
 have k4:=HT2.out.free 4
 have k5:=HT2.out.free 5
 have k6:=HT2.out.free 6
 have k7:=HT2.out.free 7
 have k8:=HT2.out.free 8
 go_wp2
 exact bodyPost_ret (v:=oneV none) (one_ret rfl rfl rfl (((((((((HT2.out.set 0 (.int .i64 0)).set 1 (.string ⟨#[]⟩)).set 2 (.string ⟨#[]⟩)).set 3 (.int .i64 0)).set 4 (.string ⟨#[]⟩)).set 5 (.string ⟨#[]⟩)).set 6 (.int .i64 0)).set 7 (.string ⟨#[]⟩)).set 8 (.string ⟨#[]⟩)) Tryz.results84) rfl ⟨by rw [HN.out],(below_set (below_set (below_set (below_set (below_set (below_set (below_set (below_set (below_set HB2.out (Nat.le_refl _) 0 (.int .i64 0)) (Nat.le_refl _) 1 (.string ⟨#[]⟩)) (Nat.le_refl _) 2 (.string ⟨#[]⟩)) (Nat.le_refl _) 3 (.int .i64 0)) (Nat.le_refl _) 4 (.string ⟨#[]⟩)) (Nat.le_refl _) 5 (.string ⟨#[]⟩)) (Nat.le_refl _) 6 (.int .i64 0)) (Nat.le_refl _) 7 (.string ⟨#[]⟩)) (Nat.le_refl _) 8 (.string ⟨#[]⟩))⟩
theorem pone_nothing (s:List UInt8) (w:World) (hV:Vars w) (hE:ErrAt w) (hl:s.length≤1000000) (h1:Lib.validD s=true) (h2:Tm.endd (s.dropWhile blankC)=true) :
  Calls Tryz.prog 84 #[str s] w fun e w'=>e=.returned (oneV (Tm.one s))∧Below w.heap.size w w':=by
 have HN:=hid (show Tm.one s=some none by unfold Tm.one;rw [if_neg (by rw [h1];decide),if_pos h2])
 have VA:=hid (fun w h=>valid_any s w (by omega) h)
 have HB1:=hid (show Below w.heap.size w (w.alloc (.cells z9.toArray 67)) from (Below.refl _ _).alloc (Nat.le_refl _) _)
 have HT1:=hid (Blk.new w z9 67)
 have HV:=hid hV
 have HE:=hid hE
 rw [h1] at VA
 have H2:=hid h2
 clear hV hE h1 h2
 go_enter Tryz.func84,Tryz.ntmps84
 go_wp2_with fail
 refine (VA.out _ (HV.out.keep HB1.out).1).mono ?_
 rintro e w2 ⟨rfl,hb2⟩
 have HB2:=hid (below_then HB1.out hb2)
 have HT2:=hid (HT1.out.keep hb2)
 clear hb2
 have hlt2:w.heap.size<w2.heap.size:=HT2.out.lt
 obtain ⟨q,hq⟩:∃ q,q=w2.heap.size:=⟨_,rfl⟩
 have hqe:q≠4:=by
  obtain ⟨ev,he,_⟩:=HE.out
  have:=lt_of_cell he
  have:(4:Nat)<w.heap.size:=this
  omega
 have HR3:=hid (show Pr (w2.alloc (.cells #[str s,.int .i64 0] 192)) q s 0 from Blk.new' hq.symm rfl)
 have HB3:=hid (HB2.out.alloc HB2.out.size (.cells #[str s,.int .i64 0] 192))
 have HT3:=hid (HT2.out.alloc (.cells #[str s,.int .i64 0] 192))
 have hqw:w.heap.size<q:=by omega
 have BL:=hid (pblanks_any q s 0 _ HR3.out (by omega) (Nat.zero_le _))
 have EN:Hid (∀ (W:World) (j:Nat),j≤s.length→Pr W q s j→Calls Tryz.prog 124 #[rdp q] W fun e w'=>e=.returned (.bool (Tm.endd (s.drop j)))∧∃ n,w'=W.drewN n):=fun W j hj hr=>pended_any q s j W hr (by omega) hj
 have TR:=hid (fun (W:World) (j:Nat) (hb:Below w.heap.size w W) (hj:j≤s.length) (hr:Pr W q s j)=>ptri_any q s j W (HE.out.keep hb) hqe hr (by omega) hj)
 rw [hq] at BL EN TR
 go_wp2_with fail
 refine BL.out.mono ?_
 rintro e w4 ⟨rfl,⟨j,hj,hjd,hr4⟩,hb4⟩
 rw [←hq] at EN TR hr4 hb4
 have HB4:=hid (hb4.into HB3.out (by omega))
 have HT4:=hid (But.blk HT3.out hb4 (by omega))
 have HR4:=hid hr4
 have HJ:=hid hjd
 clear hr4 hb4 hjd BL HR3 HB3 HT3
 rw [List.drop_zero] at HJ
 rw [hq] at EN TR
 go_wp2_with fail
 refine (EN.out _ j hj (hq ▸ HR4.out)).mono ?_
 rintro e w5 ⟨rfl,n5,hw5⟩
 rw [HJ.out]
 rw [←hq] at EN TR
 have HB5:=hid (show Below w.heap.size w w5 by rw [hw5];exact below_drawn HB4.out _)
 have HT5:=hid (show Blk w5 w.heap.size z9 67 by rw [hw5];exact HT4.out)
 have HR5:=hid (show Pr w5 q s j by rw [hw5];exact HR4.out)
 clear hw5
 rw [H2.out]
 have g0:=HT5.out.cell (i:=0) rfl
 have g1:=HT5.out.cell (i:=1) rfl
 have g2:=HT5.out.cell (i:=2) rfl
 have g3:=HT5.out.cell (i:=3) rfl
 have g4:=HT5.out.cell (i:=4) rfl
 have g5:=HT5.out.cell (i:=5) rfl
 have g6:=HT5.out.cell (i:=6) rfl
 have g7:=HT5.out.cell (i:=7) rfl
 have g8:=HT5.out.cell (i:=8) rfl
 have k0:=HT5.out.free 0
 have k1:=HT5.out.free 1
 have k2:=HT5.out.free 2
 have k3:=HT5.out.free 3
 have k4:=HT5.out.free 4
 have k5:=HT5.out.free 5
 have k6:=HT5.out.free 6
 have k7:=HT5.out.free 7
 have k8:=HT5.out.free 8
 go_wp2
 exact bodyPost_ret (v:=oneV (some none)) (one_ret rfl rfl rfl (((((((((HT5.out.set 0 (.int .i64 0)).set 1 (.string ⟨#[]⟩)).set 2 (.string ⟨#[]⟩)).set 3 (.int .i64 0)).set 4 (.string ⟨#[]⟩)).set 5 (.string ⟨#[]⟩)).set 6 (.int .i64 0)).set 7 (.string ⟨#[]⟩)).set 8 (.string ⟨#[]⟩)) Tryz.results84) rfl ⟨by rw [HN.out],(below_set (below_set (below_set (below_set (below_set (below_set (below_set (below_set (below_set HB5.out (Nat.le_refl _) 0 (.int .i64 0)) (Nat.le_refl _) 1 (.string ⟨#[]⟩)) (Nat.le_refl _) 2 (.string ⟨#[]⟩)) (Nat.le_refl _) 3 (.int .i64 0)) (Nat.le_refl _) 4 (.string ⟨#[]⟩)) (Nat.le_refl _) 5 (.string ⟨#[]⟩)) (Nat.le_refl _) 6 (.int .i64 0)) (Nat.le_refl _) 7 (.string ⟨#[]⟩)) (Nat.le_refl _) 8 (.string ⟨#[]⟩))⟩
theorem pone_none (s:List UInt8) (w:World) (hV:Vars w) (hE:ErrAt w) (hl:s.length≤1000000) (h1:Lib.validD s=true) (h2:Tm.endd (s.dropWhile blankC)=false) (h3:Tm.rtri (s.dropWhile blankC)=none) :
  Calls Tryz.prog 84 #[str s] w fun e w'=>e=.returned (oneV (Tm.one s))∧Below w.heap.size w w':=by
 have HN:=hid (show Tm.one s=none by unfold Tm.one;rw [if_neg (by rw [h1];decide),if_neg (by rw [h2];decide),h3])
 have VA:=hid (fun w h=>valid_any s w (by omega) h)
 have HB1:=hid (show Below w.heap.size w (w.alloc (.cells z9.toArray 67)) from (Below.refl _ _).alloc (Nat.le_refl _) _)
 have HT1:=hid (Blk.new w z9 67)
 have HV:=hid hV
 have HE:=hid hE
 rw [h1] at VA
 have H2:=hid h2
 have H3:=hid h3
 clear hV hE h1 h2 h3
 go_enter Tryz.func84,Tryz.ntmps84
 go_wp2_with fail
 refine (VA.out _ (HV.out.keep HB1.out).1).mono ?_
 rintro e w2 ⟨rfl,hb2⟩
 have HB2:=hid (below_then HB1.out hb2)
 have HT2:=hid (HT1.out.keep hb2)
 clear hb2
 have hlt2:w.heap.size<w2.heap.size:=HT2.out.lt
 obtain ⟨q,hq⟩:∃ q,q=w2.heap.size:=⟨_,rfl⟩
 have hqe:q≠4:=by
  obtain ⟨ev,he,_⟩:=HE.out
  have:=lt_of_cell he
  have:(4:Nat)<w.heap.size:=this
  omega
 have HR3:=hid (show Pr (w2.alloc (.cells #[str s,.int .i64 0] 192)) q s 0 from Blk.new' hq.symm rfl)
 have HB3:=hid (HB2.out.alloc HB2.out.size (.cells #[str s,.int .i64 0] 192))
 have HT3:=hid (HT2.out.alloc (.cells #[str s,.int .i64 0] 192))
 have hqw:w.heap.size<q:=by omega
 have BL:=hid (pblanks_any q s 0 _ HR3.out (by omega) (Nat.zero_le _))
 have EN:Hid (∀ (W:World) (j:Nat),j≤s.length→Pr W q s j→Calls Tryz.prog 124 #[rdp q] W fun e w'=>e=.returned (.bool (Tm.endd (s.drop j)))∧∃ n,w'=W.drewN n):=fun W j hj hr=>pended_any q s j W hr (by omega) hj
 have TR:=hid (fun (W:World) (j:Nat) (hb:Below w.heap.size w W) (hj:j≤s.length) (hr:Pr W q s j)=>ptri_any q s j W (HE.out.keep hb) hqe hr (by omega) hj)
 rw [hq] at BL EN TR
 go_wp2_with fail
 refine BL.out.mono ?_
 rintro e w4 ⟨rfl,⟨j,hj,hjd,hr4⟩,hb4⟩
 rw [←hq] at EN TR hr4 hb4
 have HB4:=hid (hb4.into HB3.out (by omega))
 have HT4:=hid (But.blk HT3.out hb4 (by omega))
 have HR4:=hid hr4
 have HJ:=hid hjd
 clear hr4 hb4 hjd BL HR3 HB3 HT3
 rw [List.drop_zero] at HJ
 rw [hq] at EN TR
 go_wp2_with fail
 refine (EN.out _ j hj (hq ▸ HR4.out)).mono ?_
 rintro e w5 ⟨rfl,n5,hw5⟩
 rw [HJ.out]
 rw [←hq] at EN TR
 have HB5:=hid (show Below w.heap.size w w5 by rw [hw5];exact below_drawn HB4.out _)
 have HT5:=hid (show Blk w5 w.heap.size z9 67 by rw [hw5];exact HT4.out)
 have HR5:=hid (show Pr w5 q s j by rw [hw5];exact HR4.out)
 clear hw5
 rw [H2.out]
 have TR5:=hid (TR.out _ j HB5.out hj HR5.out)
 rw [HJ.out,H3.out] at TR5
 have TR6:Hid (Calls Tryz.prog 125 #[rdp w2.heap.size] w5 fun e w'=>But q w5 w'∧e=.returned (.tuple #[.agg z9.toArray,.bool false])):=hq ▸ TR5
 clear TR5 TR EN
 go_wp2_with fail
 refine TR6.out.mono ?_
 rintro e w6 ⟨hb6,rfl⟩
 have HB6:=hid (hb6.into HB5.out (by omega))
 have HT6:=hid (But.blk HT5.out hb6 (by omega))
 have HB7:=hid (HB6.out.alloc HB6.out.size (.cells z9.toArray 67))
 have HT7:=hid (HT6.out.alloc (.cells z9.toArray 67))
 clear hb6
 go_wp2_with (show wpList _ _ _ (_::_::_::_) _ (w6.alloc (.cells z9.toArray 67));obtain ⟨w7,hw7⟩:∃ w7,w7=w6.alloc (.cells z9.toArray 67):=⟨_,rfl⟩;rw [←hw7] at HB7 HT7 ⊢;clear hw7;have g0:=HT7.out.cell (i:=0) rfl;have k0:=HT7.out.free 0;have g1:=HT7.out.cell (i:=1) rfl;have k1:=HT7.out.free 1;have g2:=HT7.out.cell (i:=2) rfl;have k2:=HT7.out.free 2;have g3:=HT7.out.cell (i:=3) rfl;have k3:=HT7.out.free 3;have g4:=HT7.out.cell (i:=4) rfl;have k4:=HT7.out.free 4;have g5:=HT7.out.cell (i:=5) rfl;have k5:=HT7.out.free 5;have g6:=HT7.out.cell (i:=6) rfl;have k6:=HT7.out.free 6;have g7:=HT7.out.cell (i:=7) rfl;have k7:=HT7.out.free 7;have g8:=HT7.out.cell (i:=8) rfl;have k8:=HT7.out.free 8)
 exact bodyPost_ret (v:=oneV none) (one_ret rfl rfl rfl (((((((((HT7.out.set 0 (.int .i64 0)).set 1 (.string ⟨#[]⟩)).set 2 (.string ⟨#[]⟩)).set 3 (.int .i64 0)).set 4 (.string ⟨#[]⟩)).set 5 (.string ⟨#[]⟩)).set 6 (.int .i64 0)).set 7 (.string ⟨#[]⟩)).set 8 (.string ⟨#[]⟩)) Tryz.results84) rfl ⟨by rw [HN.out],(below_set (below_set (below_set (below_set (below_set (below_set (below_set (below_set (below_set HB7.out (Nat.le_refl _) 0 (.int .i64 0)) (Nat.le_refl _) 1 (.string ⟨#[]⟩)) (Nat.le_refl _) 2 (.string ⟨#[]⟩)) (Nat.le_refl _) 3 (.int .i64 0)) (Nat.le_refl _) 4 (.string ⟨#[]⟩)) (Nat.le_refl _) 5 (.string ⟨#[]⟩)) (Nat.le_refl _) 6 (.int .i64 0)) (Nat.le_refl _) 7 (.string ⟨#[]⟩)) (Nat.le_refl _) 8 (.string ⟨#[]⟩))⟩
theorem pone_more (s:List UInt8) (w:World) (hV:Vars w) (hE:ErrAt w) (hl:s.length≤1000000) (h1:Lib.validD s=true) (h2:Tm.endd (s.dropWhile blankC)=false) (a b c:Tm.T3) (v:List UInt8) (h3:Tm.rtri (s.dropWhile blankC)=some ((a,b,c),v)) (h4:Tm.endd v=false) :
  Calls Tryz.prog 84 #[str s] w fun e w'=>e=.returned (oneV (Tm.one s))∧Below w.heap.size w w':=by
 have HN:=hid (show Tm.one s=none by unfold Tm.one;rw [if_neg (by rw [h1];decide),if_neg (by rw [h2];decide),h3];simp only;rw [if_neg (by rw [h4];simp)])
 have VA:=hid (fun w h=>valid_any s w (by omega) h)
 have HB1:=hid (show Below w.heap.size w (w.alloc (.cells z9.toArray 67)) from (Below.refl _ _).alloc (Nat.le_refl _) _)
 have HT1:=hid (Blk.new w z9 67)
 have HV:=hid hV
 have HE:=hid hE
 rw [h1] at VA
 have H2:=hid h2
 have H3:=hid h3
 have H4:=hid h4
 clear hV hE h1 h2 h3 h4
 go_enter Tryz.func84,Tryz.ntmps84
 go_wp2_with fail
 refine (VA.out _ (HV.out.keep HB1.out).1).mono ?_
 rintro e w2 ⟨rfl,hb2⟩
 have HB2:=hid (below_then HB1.out hb2)
 have HT2:=hid (HT1.out.keep hb2)
 clear hb2
 have hlt2:w.heap.size<w2.heap.size:=HT2.out.lt
 obtain ⟨q,hq⟩:∃ q,q=w2.heap.size:=⟨_,rfl⟩
 have hqe:q≠4:=by
  obtain ⟨ev,he,_⟩:=HE.out
  have:=lt_of_cell he
  have:(4:Nat)<w.heap.size:=this
  omega
 have HR3:=hid (show Pr (w2.alloc (.cells #[str s,.int .i64 0] 192)) q s 0 from Blk.new' hq.symm rfl)
 have HB3:=hid (HB2.out.alloc HB2.out.size (.cells #[str s,.int .i64 0] 192))
 have HT3:=hid (HT2.out.alloc (.cells #[str s,.int .i64 0] 192))
 have hqw:w.heap.size<q:=by omega
 have BL:=hid (pblanks_any q s 0 _ HR3.out (by omega) (Nat.zero_le _))
 have EN:Hid (∀ (W:World) (j:Nat),j≤s.length→Pr W q s j→Calls Tryz.prog 124 #[rdp q] W fun e w'=>e=.returned (.bool (Tm.endd (s.drop j)))∧∃ n,w'=W.drewN n):=fun W j hj hr=>pended_any q s j W hr (by omega) hj
 have TR:=hid (fun (W:World) (j:Nat) (hb:Below w.heap.size w W) (hj:j≤s.length) (hr:Pr W q s j)=>ptri_any q s j W (HE.out.keep hb) hqe hr (by omega) hj)
 rw [hq] at BL EN TR
 go_wp2_with fail
 refine BL.out.mono ?_
 rintro e w4 ⟨rfl,⟨j,hj,hjd,hr4⟩,hb4⟩
 rw [←hq] at EN TR hr4 hb4
 have HB4:=hid (hb4.into HB3.out (by omega))
 have HT4:=hid (But.blk HT3.out hb4 (by omega))
 have HR4:=hid hr4
 have HJ:=hid hjd
 clear hr4 hb4 hjd BL HR3 HB3 HT3
 rw [List.drop_zero] at HJ
 rw [hq] at EN TR
 go_wp2_with fail
 refine (EN.out _ j hj (hq ▸ HR4.out)).mono ?_
 rintro e w5 ⟨rfl,n5,hw5⟩
 rw [HJ.out]
 rw [←hq] at EN TR
 have HB5:=hid (show Below w.heap.size w w5 by rw [hw5];exact below_drawn HB4.out _)
 have HT5:=hid (show Blk w5 w.heap.size z9 67 by rw [hw5];exact HT4.out)
 have HR5:=hid (show Pr w5 q s j by rw [hw5];exact HR4.out)
 clear hw5
 rw [H2.out]
 have TR5:=hid (TR.out _ j HB5.out hj HR5.out)
 rw [HJ.out,H3.out] at TR5
 have TR6:Hid (Calls Tryz.prog 125 #[rdp w2.heap.size] w5 fun e w'=>But q w5 w'∧e=.returned (.tuple #[triV (a.1:Nat) a.2.1 a.2.2 (b.1:Nat) b.2.1 b.2.2 (c.1:Nat) c.2.1 c.2.2,.bool true])∧∃ m,m≤s.length∧s.drop m=v∧Pr w' q s m):=hq ▸ TR5
 clear TR5 TR
 go_wp2_with fail
 refine TR6.out.mono ?_
 rintro e w6 ⟨hb6,rfl,m,hm,hmd,hr6⟩
 have HB6:=hid (hb6.into HB5.out (by omega))
 have HT6:=hid (But.blk HT5.out hb6 (by omega))
 have HB7:=hid (show Below w.heap.size w (new9 w6 (a.1:Nat) a.2.1 a.2.2 (b.1:Nat) b.2.1 b.2.2 (c.1:Nat) c.2.1 c.2.2) from HB6.out.alloc HB6.out.size _)
 have HT7:=hid (show Blk (new9 w6 (a.1:Nat) a.2.1 a.2.2 (b.1:Nat) b.2.1 b.2.2 (c.1:Nat) c.2.1 c.2.2) w.heap.size z9 67 from HT6.out.alloc _)
 have HU7:=hid (new9_new w6 (a.1:Nat) a.2.1 a.2.2 (b.1:Nat) b.2.1 b.2.2 (c.1:Nat) c.2.1 c.2.2)
 have HR7:=hid (show Pr (new9 w6 (a.1:Nat) a.2.1 a.2.2 (b.1:Nat) b.2.1 b.2.2 (c.1:Nat) c.2.1 c.2.2) q s m from hr6.keep ((Below.refl _ _).alloc (Nat.le_refl _) _))
 have hq7:w.heap.size<w6.heap.size:=HT6.out.lt
 clear hb6 hr6
 have EN7:=hid (EN.out _ m hm HR7.out)
 rw [hmd,H4.out,hq] at EN7
 go_wp2_with fail
 refine EN7.out.mono ?_
 rintro e w8 ⟨rfl,n8,hw8⟩
 have HB8:=hid (show Below w.heap.size w w8 by rw [hw8];exact below_drawn HB7.out _)
 have HT8:=hid (show Blk w8 w.heap.size z9 67 by rw [hw8];exact HT7.out)
 have HU8:=hid (show Blk w8 w6.heap.size [.int .i64 (a.1:Nat),str a.2.1,str a.2.2,.int .i64 (b.1:Nat),str b.2.1,str b.2.2,.int .i64 (c.1:Nat),str c.2.1,str c.2.2] 67 by rw [hw8];exact HU7.out)
 clear hw8
 have g0:=HT8.out.cell (i:=0) rfl
 have g1:=HT8.out.cell (i:=1) rfl
 have g2:=HT8.out.cell (i:=2) rfl
 have g3:=HT8.out.cell (i:=3) rfl
 have g4:=HT8.out.cell (i:=4) rfl
 have g5:=HT8.out.cell (i:=5) rfl
 have g6:=HT8.out.cell (i:=6) rfl
 have g7:=HT8.out.cell (i:=7) rfl
 have g8:=HT8.out.cell (i:=8) rfl
 have k0:=HT8.out.free 0
 have k1:=HT8.out.free 1
 have k2:=HT8.out.free 2
 have k3:=HT8.out.free 3
 have k4:=HT8.out.free 4
 have k5:=HT8.out.free 5
 have k6:=HT8.out.free 6
 have k7:=HT8.out.free 7
 have k8:=HT8.out.free 8
 go_wp2
 exact bodyPost_ret (v:=oneV none) (one_ret rfl rfl rfl (((((((((HT8.out.set 0 (.int .i64 0)).set 1 (.string ⟨#[]⟩)).set 2 (.string ⟨#[]⟩)).set 3 (.int .i64 0)).set 4 (.string ⟨#[]⟩)).set 5 (.string ⟨#[]⟩)).set 6 (.int .i64 0)).set 7 (.string ⟨#[]⟩)).set 8 (.string ⟨#[]⟩)) Tryz.results84) rfl ⟨by rw [HN.out],(below_set (below_set (below_set (below_set (below_set (below_set (below_set (below_set (below_set HB8.out (Nat.le_refl _) 0 (.int .i64 0)) (Nat.le_refl _) 1 (.string ⟨#[]⟩)) (Nat.le_refl _) 2 (.string ⟨#[]⟩)) (Nat.le_refl _) 3 (.int .i64 0)) (Nat.le_refl _) 4 (.string ⟨#[]⟩)) (Nat.le_refl _) 5 (.string ⟨#[]⟩)) (Nat.le_refl _) 6 (.int .i64 0)) (Nat.le_refl _) 7 (.string ⟨#[]⟩)) (Nat.le_refl _) 8 (.string ⟨#[]⟩))⟩
theorem pone_isno (s:List UInt8) (w:World) (hV:Vars w) (hE:ErrAt w) (hl:s.length≤1000000) (h1:Lib.validD s=true) (h2:Tm.endd (s.dropWhile blankC)=false) (a b c:Tm.T3) (v:List UInt8) (h3:Tm.rtri (s.dropWhile blankC)=some ((a,b,c),v)) (h4:Tm.endd v=true) (h5:Tm.isTri (a,b,c)=false) :
  Calls Tryz.prog 84 #[str s] w fun e w'=>e=.returned (oneV (Tm.one s))∧Below w.heap.size w w':=by
 have HN:=hid (show Tm.one s=none by unfold Tm.one;rw [if_neg (by rw [h1];decide),if_neg (by rw [h2];decide),h3];simp only;rw [if_neg (by rw [h5];simp)])
 have VA:=hid (fun w h=>valid_any s w (by omega) h)
 have HB1:=hid (show Below w.heap.size w (w.alloc (.cells z9.toArray 67)) from (Below.refl _ _).alloc (Nat.le_refl _) _)
 have HT1:=hid (Blk.new w z9 67)
 have HV:=hid hV
 have HE:=hid hE
 rw [h1] at VA
 have H2:=hid h2
 have H3:=hid h3
 have H4:=hid h4
 have hd:=dw_len blankC s
 obtain ⟨⟨l1,l2⟩,⟨l3,l4⟩,⟨l5,l6⟩,_⟩:=rtri_len h3
 have IS:=hid (fun W h=>pis_any (a.1:Nat) a.2.1 a.2.2 (b.1:Nat) b.2.1 b.2.2 (c.1:Nat) c.2.1 c.2.2 W (by omega) (by omega) (by omega) (by omega) (by omega) (by omega) h)
 rw [isTri_I,h5] at IS
 clear hV hE h1 h2 h3 h4 h5 l1 l2 l3 l4 l5 l6 hd
 go_enter Tryz.func84,Tryz.ntmps84
 go_wp2_with fail
 refine (VA.out _ (HV.out.keep HB1.out).1).mono ?_
 rintro e w2 ⟨rfl,hb2⟩
 have HB2:=hid (below_then HB1.out hb2)
 have HT2:=hid (HT1.out.keep hb2)
 clear hb2
 have hlt2:w.heap.size<w2.heap.size:=HT2.out.lt
 obtain ⟨q,hq⟩:∃ q,q=w2.heap.size:=⟨_,rfl⟩
 have hqe:q≠4:=by
  obtain ⟨ev,he,_⟩:=HE.out
  have:=lt_of_cell he
  have:(4:Nat)<w.heap.size:=this
  omega
 have HR3:=hid (show Pr (w2.alloc (.cells #[str s,.int .i64 0] 192)) q s 0 from Blk.new' hq.symm rfl)
 have HB3:=hid (HB2.out.alloc HB2.out.size (.cells #[str s,.int .i64 0] 192))
 have HT3:=hid (HT2.out.alloc (.cells #[str s,.int .i64 0] 192))
 have hqw:w.heap.size<q:=by omega
 have BL:=hid (pblanks_any q s 0 _ HR3.out (by omega) (Nat.zero_le _))
 have EN:Hid (∀ (W:World) (j:Nat),j≤s.length→Pr W q s j→Calls Tryz.prog 124 #[rdp q] W fun e w'=>e=.returned (.bool (Tm.endd (s.drop j)))∧∃ n,w'=W.drewN n):=fun W j hj hr=>pended_any q s j W hr (by omega) hj
 have TR:=hid (fun (W:World) (j:Nat) (hb:Below w.heap.size w W) (hj:j≤s.length) (hr:Pr W q s j)=>ptri_any q s j W (HE.out.keep hb) hqe hr (by omega) hj)
 rw [hq] at BL EN TR
 go_wp2_with fail
 refine BL.out.mono ?_
 rintro e w4 ⟨rfl,⟨j,hj,hjd,hr4⟩,hb4⟩
 rw [←hq] at EN TR hr4 hb4
 have HB4:=hid (hb4.into HB3.out (by omega))
 have HT4:=hid (But.blk HT3.out hb4 (by omega))
 have HR4:=hid hr4
 have HJ:=hid hjd
 clear hr4 hb4 hjd BL HR3 HB3 HT3
 rw [List.drop_zero] at HJ
 rw [hq] at EN TR
 go_wp2_with fail
 refine (EN.out _ j hj (hq ▸ HR4.out)).mono ?_
 rintro e w5 ⟨rfl,n5,hw5⟩
 rw [HJ.out]
 rw [←hq] at EN TR
 have HB5:=hid (show Below w.heap.size w w5 by rw [hw5];exact below_drawn HB4.out _)
 have HT5:=hid (show Blk w5 w.heap.size z9 67 by rw [hw5];exact HT4.out)
 have HR5:=hid (show Pr w5 q s j by rw [hw5];exact HR4.out)
 clear hw5
 rw [H2.out]
 have TR5:=hid (TR.out _ j HB5.out hj HR5.out)
 rw [HJ.out,H3.out] at TR5
 have TR6:Hid (Calls Tryz.prog 125 #[rdp w2.heap.size] w5 fun e w'=>But q w5 w'∧e=.returned (.tuple #[triV (a.1:Nat) a.2.1 a.2.2 (b.1:Nat) b.2.1 b.2.2 (c.1:Nat) c.2.1 c.2.2,.bool true])∧∃ m,m≤s.length∧s.drop m=v∧Pr w' q s m):=hq ▸ TR5
 clear TR5 TR
 go_wp2_with fail
 refine TR6.out.mono ?_
 rintro e w6 ⟨hb6,rfl,m,hm,hmd,hr6⟩
 have HB6:=hid (hb6.into HB5.out (by omega))
 have HT6:=hid (But.blk HT5.out hb6 (by omega))
 have HB7:=hid (show Below w.heap.size w (new9 w6 (a.1:Nat) a.2.1 a.2.2 (b.1:Nat) b.2.1 b.2.2 (c.1:Nat) c.2.1 c.2.2) from HB6.out.alloc HB6.out.size _)
 have HT7:=hid (show Blk (new9 w6 (a.1:Nat) a.2.1 a.2.2 (b.1:Nat) b.2.1 b.2.2 (c.1:Nat) c.2.1 c.2.2) w.heap.size z9 67 from HT6.out.alloc _)
 have HU7:=hid (new9_new w6 (a.1:Nat) a.2.1 a.2.2 (b.1:Nat) b.2.1 b.2.2 (c.1:Nat) c.2.1 c.2.2)
 have HR7:=hid (show Pr (new9 w6 (a.1:Nat) a.2.1 a.2.2 (b.1:Nat) b.2.1 b.2.2 (c.1:Nat) c.2.1 c.2.2) q s m from hr6.keep ((Below.refl _ _).alloc (Nat.le_refl _) _))
 have hq7:w.heap.size<w6.heap.size:=HT6.out.lt
 clear hb6 hr6
 have EN7:=hid (EN.out _ m hm HR7.out)
 rw [hmd,H4.out,hq] at EN7
 go_wp2_with fail
 refine EN7.out.mono ?_
 rintro e w8 ⟨rfl,n8,hw8⟩
 have HB8:=hid (show Below w.heap.size w w8 by rw [hw8];exact below_drawn HB7.out _)
 have HT8:=hid (show Blk w8 w.heap.size z9 67 by rw [hw8];exact HT7.out)
 have HU8:=hid (show Blk w8 w6.heap.size [.int .i64 (a.1:Nat),str a.2.1,str a.2.2,.int .i64 (b.1:Nat),str b.2.1,str b.2.2,.int .i64 (c.1:Nat),str c.2.1,str c.2.2] 67 by rw [hw8];exact HU7.out)
 clear hw8
 have e0:=HU8.out.cell (i:=0) rfl
 have e1:=HU8.out.cell (i:=1) rfl
 have e2:=HU8.out.cell (i:=2) rfl
 have e3:=HU8.out.cell (i:=3) rfl
 have e4:=HU8.out.cell (i:=4) rfl
 have e5:=HU8.out.cell (i:=5) rfl
 have e6:=HU8.out.cell (i:=6) rfl
 have e7:=HU8.out.cell (i:=7) rfl
 have e8:=HU8.out.cell (i:=8) rfl
 go_wp2_with fail
 refine (IS.out _ (HV.out.keep HB8.out)).mono ?_
 rintro e w9 ⟨rfl,hb9⟩
 have HB9:=hid (below_then HB8.out hb9)
 have HT9:=hid (HT8.out.keep hb9)
 have HU9:=hid (HU8.out.keep hb9)
 clear hb9
 have g0:=HT9.out.cell (i:=0) rfl
 have g1:=HT9.out.cell (i:=1) rfl
 have g2:=HT9.out.cell (i:=2) rfl
 have g3:=HT9.out.cell (i:=3) rfl
 have g4:=HT9.out.cell (i:=4) rfl
 have g5:=HT9.out.cell (i:=5) rfl
 have g6:=HT9.out.cell (i:=6) rfl
 have g7:=HT9.out.cell (i:=7) rfl
 have g8:=HT9.out.cell (i:=8) rfl
 have k0:=HT9.out.free 0
 have k1:=HT9.out.free 1
 have k2:=HT9.out.free 2
 have k3:=HT9.out.free 3
 have k4:=HT9.out.free 4
 have k5:=HT9.out.free 5
 have k6:=HT9.out.free 6
 have k7:=HT9.out.free 7
 have k8:=HT9.out.free 8
 go_wp2
 exact bodyPost_ret (v:=oneV (none)) (one_ret rfl rfl rfl (((((((((HT9.out.set 0 (.int .i64 0)).set 1 (.string ⟨#[]⟩)).set 2 (.string ⟨#[]⟩)).set 3 (.int .i64 0)).set 4 (.string ⟨#[]⟩)).set 5 (.string ⟨#[]⟩)).set 6 (.int .i64 0)).set 7 (.string ⟨#[]⟩)).set 8 (.string ⟨#[]⟩)) Tryz.results84) rfl ⟨by rw [HN.out],(below_set (below_set (below_set (below_set (below_set (below_set (below_set (below_set (below_set HB9.out (Nat.le_refl _) 0 (.int .i64 0)) (Nat.le_refl _) 1 (.string ⟨#[]⟩)) (Nat.le_refl _) 2 (.string ⟨#[]⟩)) (Nat.le_refl _) 3 (.int .i64 0)) (Nat.le_refl _) 4 (.string ⟨#[]⟩)) (Nat.le_refl _) 5 (.string ⟨#[]⟩)) (Nat.le_refl _) 6 (.int .i64 0)) (Nat.le_refl _) 7 (.string ⟨#[]⟩)) (Nat.le_refl _) 8 (.string ⟨#[]⟩))⟩
theorem pone_ok (s:List UInt8) (w:World) (hV:Vars w) (hE:ErrAt w) (hl:s.length≤1000000) (h1:Lib.validD s=true) (h2:Tm.endd (s.dropWhile blankC)=false) (a b c:Tm.T3) (v:List UInt8) (h3:Tm.rtri (s.dropWhile blankC)=some ((a,b,c),v)) (h4:Tm.endd v=true) (h5:Tm.isTri (a,b,c)=true) :
  Calls Tryz.prog 84 #[str s] w fun e w'=>e=.returned (oneV (Tm.one s))∧Below w.heap.size w w':=by
 have HN:=hid (show Tm.one s=some (some (a,b,c)) by unfold Tm.one;rw [if_neg (by rw [h1];decide),if_neg (by rw [h2];decide),h3];simp only;rw [if_pos ⟨h4,h5⟩])
 have VA:=hid (fun w h=>valid_any s w (by omega) h)
 have HB1:=hid (show Below w.heap.size w (w.alloc (.cells z9.toArray 67)) from (Below.refl _ _).alloc (Nat.le_refl _) _)
 have HT1:=hid (Blk.new w z9 67)
 have HV:=hid hV
 have HE:=hid hE
 rw [h1] at VA
 have H2:=hid h2
 have H3:=hid h3
 have H4:=hid h4
 have hd:=dw_len blankC s
 obtain ⟨⟨l1,l2⟩,⟨l3,l4⟩,⟨l5,l6⟩,_⟩:=rtri_len h3
 have IS:=hid (fun W h=>pis_any (a.1:Nat) a.2.1 a.2.2 (b.1:Nat) b.2.1 b.2.2 (c.1:Nat) c.2.1 c.2.2 W (by omega) (by omega) (by omega) (by omega) (by omega) (by omega) h)
 rw [isTri_I,h5] at IS
 clear hV hE h1 h2 h3 h4 h5 l1 l2 l3 l4 l5 l6 hd
 go_enter Tryz.func84,Tryz.ntmps84
 go_wp2_with fail
 refine (VA.out _ (HV.out.keep HB1.out).1).mono ?_
 rintro e w2 ⟨rfl,hb2⟩
 have HB2:=hid (below_then HB1.out hb2)
 have HT2:=hid (HT1.out.keep hb2)
 clear hb2
 have hlt2:w.heap.size<w2.heap.size:=HT2.out.lt
 obtain ⟨q,hq⟩:∃ q,q=w2.heap.size:=⟨_,rfl⟩
 have hqe:q≠4:=by
  obtain ⟨ev,he,_⟩:=HE.out
  have:=lt_of_cell he
  have:(4:Nat)<w.heap.size:=this
  omega
 have HR3:=hid (show Pr (w2.alloc (.cells #[str s,.int .i64 0] 192)) q s 0 from Blk.new' hq.symm rfl)
 have HB3:=hid (HB2.out.alloc HB2.out.size (.cells #[str s,.int .i64 0] 192))
 have HT3:=hid (HT2.out.alloc (.cells #[str s,.int .i64 0] 192))
 have hqw:w.heap.size<q:=by omega
 have BL:=hid (pblanks_any q s 0 _ HR3.out (by omega) (Nat.zero_le _))
 have EN:Hid (∀ (W:World) (j:Nat),j≤s.length→Pr W q s j→Calls Tryz.prog 124 #[rdp q] W fun e w'=>e=.returned (.bool (Tm.endd (s.drop j)))∧∃ n,w'=W.drewN n):=fun W j hj hr=>pended_any q s j W hr (by omega) hj
 have TR:=hid (fun (W:World) (j:Nat) (hb:Below w.heap.size w W) (hj:j≤s.length) (hr:Pr W q s j)=>ptri_any q s j W (HE.out.keep hb) hqe hr (by omega) hj)
 rw [hq] at BL EN TR
 go_wp2_with fail
 refine BL.out.mono ?_
 rintro e w4 ⟨rfl,⟨j,hj,hjd,hr4⟩,hb4⟩
 rw [←hq] at EN TR hr4 hb4
 have HB4:=hid (hb4.into HB3.out (by omega))
 have HT4:=hid (But.blk HT3.out hb4 (by omega))
 have HR4:=hid hr4
 have HJ:=hid hjd
 clear hr4 hb4 hjd BL HR3 HB3 HT3
 rw [List.drop_zero] at HJ
 rw [hq] at EN TR
 go_wp2_with fail
 refine (EN.out _ j hj (hq ▸ HR4.out)).mono ?_
 rintro e w5 ⟨rfl,n5,hw5⟩
 rw [HJ.out]
 rw [←hq] at EN TR
 have HB5:=hid (show Below w.heap.size w w5 by rw [hw5];exact below_drawn HB4.out _)
 have HT5:=hid (show Blk w5 w.heap.size z9 67 by rw [hw5];exact HT4.out)
 have HR5:=hid (show Pr w5 q s j by rw [hw5];exact HR4.out)
 clear hw5
 rw [H2.out]
 have TR5:=hid (TR.out _ j HB5.out hj HR5.out)
 rw [HJ.out,H3.out] at TR5
 have TR6:Hid (Calls Tryz.prog 125 #[rdp w2.heap.size] w5 fun e w'=>But q w5 w'∧e=.returned (.tuple #[triV (a.1:Nat) a.2.1 a.2.2 (b.1:Nat) b.2.1 b.2.2 (c.1:Nat) c.2.1 c.2.2,.bool true])∧∃ m,m≤s.length∧s.drop m=v∧Pr w' q s m):=hq ▸ TR5
 clear TR5 TR
 go_wp2_with fail
 refine TR6.out.mono ?_
 rintro e w6 ⟨hb6,rfl,m,hm,hmd,hr6⟩
 have HB6:=hid (hb6.into HB5.out (by omega))
 have HT6:=hid (But.blk HT5.out hb6 (by omega))
 have HB7:=hid (show Below w.heap.size w (new9 w6 (a.1:Nat) a.2.1 a.2.2 (b.1:Nat) b.2.1 b.2.2 (c.1:Nat) c.2.1 c.2.2) from HB6.out.alloc HB6.out.size _)
 have HT7:=hid (show Blk (new9 w6 (a.1:Nat) a.2.1 a.2.2 (b.1:Nat) b.2.1 b.2.2 (c.1:Nat) c.2.1 c.2.2) w.heap.size z9 67 from HT6.out.alloc _)
 have HU7:=hid (new9_new w6 (a.1:Nat) a.2.1 a.2.2 (b.1:Nat) b.2.1 b.2.2 (c.1:Nat) c.2.1 c.2.2)
 have HR7:=hid (show Pr (new9 w6 (a.1:Nat) a.2.1 a.2.2 (b.1:Nat) b.2.1 b.2.2 (c.1:Nat) c.2.1 c.2.2) q s m from hr6.keep ((Below.refl _ _).alloc (Nat.le_refl _) _))
 have hq7:w.heap.size<w6.heap.size:=HT6.out.lt
 clear hb6 hr6
 have EN7:=hid (EN.out _ m hm HR7.out)
 rw [hmd,H4.out,hq] at EN7
 go_wp2_with fail
 refine EN7.out.mono ?_
 rintro e w8 ⟨rfl,n8,hw8⟩
 have HB8:=hid (show Below w.heap.size w w8 by rw [hw8];exact below_drawn HB7.out _)
 have HT8:=hid (show Blk w8 w.heap.size z9 67 by rw [hw8];exact HT7.out)
 have HU8:=hid (show Blk w8 w6.heap.size [.int .i64 (a.1:Nat),str a.2.1,str a.2.2,.int .i64 (b.1:Nat),str b.2.1,str b.2.2,.int .i64 (c.1:Nat),str c.2.1,str c.2.2] 67 by rw [hw8];exact HU7.out)
 clear hw8
 have e0:=HU8.out.cell (i:=0) rfl
 have e1:=HU8.out.cell (i:=1) rfl
 have e2:=HU8.out.cell (i:=2) rfl
 have e3:=HU8.out.cell (i:=3) rfl
 have e4:=HU8.out.cell (i:=4) rfl
 have e5:=HU8.out.cell (i:=5) rfl
 have e6:=HU8.out.cell (i:=6) rfl
 have e7:=HU8.out.cell (i:=7) rfl
 have e8:=HU8.out.cell (i:=8) rfl
 go_wp2_with fail
 refine (IS.out _ (HV.out.keep HB8.out)).mono ?_
 rintro e w9 ⟨rfl,hb9⟩
 have HB9:=hid (below_then HB8.out hb9)
 have HT9:=hid (HT8.out.keep hb9)
 have HU9:=hid (HU8.out.keep hb9)
 clear hb9
 have f0:=HU9.out.cell (i:=0) rfl
 have f1:=HU9.out.cell (i:=1) rfl
 have f2:=HU9.out.cell (i:=2) rfl
 have f3:=HU9.out.cell (i:=3) rfl
 have f4:=HU9.out.cell (i:=4) rfl
 have f5:=HU9.out.cell (i:=5) rfl
 have f6:=HU9.out.cell (i:=6) rfl
 have f7:=HU9.out.cell (i:=7) rfl
 have f8:=HU9.out.cell (i:=8) rfl
 have g0:=HT9.out.cell (i:=0) rfl
 have g1:=HT9.out.cell (i:=1) rfl
 have g2:=HT9.out.cell (i:=2) rfl
 have g3:=HT9.out.cell (i:=3) rfl
 have g4:=HT9.out.cell (i:=4) rfl
 have g5:=HT9.out.cell (i:=5) rfl
 have g6:=HT9.out.cell (i:=6) rfl
 have g7:=HT9.out.cell (i:=7) rfl
 have g8:=HT9.out.cell (i:=8) rfl
 have k0:=HT9.out.free 0
 have k1:=HT9.out.free 1
 have k2:=HT9.out.free 2
 have k3:=HT9.out.free 3
 have k4:=HT9.out.free 4
 have k5:=HT9.out.free 5
 have k6:=HT9.out.free 6
 have k7:=HT9.out.free 7
 have k8:=HT9.out.free 8
 go_wp2
 exact bodyPost_ret (v:=oneV (some (some (a,b,c)))) (one_ret rfl rfl rfl (((((((((HT9.out.set 0 (.int .i64 (a.1:Nat))).set 1 (str a.2.1)).set 2 (str a.2.2)).set 3 (.int .i64 (b.1:Nat))).set 4 (str b.2.1)).set 5 (str b.2.2)).set 6 (.int .i64 (c.1:Nat))).set 7 (str c.2.1)).set 8 (str c.2.2)) Tryz.results84) rfl ⟨by rw [HN.out],(below_set (below_set (below_set (below_set (below_set (below_set (below_set (below_set (below_set HB9.out (Nat.le_refl _) 0 (.int .i64 (a.1:Nat))) (Nat.le_refl _) 1 (str a.2.1)) (Nat.le_refl _) 2 (str a.2.2)) (Nat.le_refl _) 3 (.int .i64 (b.1:Nat))) (Nat.le_refl _) 4 (str b.2.1)) (Nat.le_refl _) 5 (str b.2.2)) (Nat.le_refl _) 6 (.int .i64 (c.1:Nat))) (Nat.le_refl _) 7 (str c.2.1)) (Nat.le_refl _) 8 (str c.2.2))⟩
theorem pone_any (s:List UInt8) (w:World) (hV:Vars w) (hE:ErrAt w) (hl:s.length≤1000000) :
  Calls Tryz.prog 84 #[str s] w fun e w'=>e=.returned (oneV (Tm.one s))∧Below w.heap.size w w':=by
 cases h1:Lib.validD s
 · exact pone_bad s w hV hE hl h1
 · cases h2:Tm.endd (s.dropWhile blankC)
   · cases h3:Tm.rtri (s.dropWhile blankC) with
     | none=>exact pone_none s w hV hE hl h1 h2 h3
     | some p=>
      obtain ⟨⟨a,b,c⟩,v⟩:=p
      cases h4:Tm.endd v
      · exact pone_more s w hV hE hl h1 h2 a b c v h3 h4
      · cases h5:Tm.isTri (a,b,c)
        · exact pone_isno s w hV hE hl h1 h2 a b c v h3 h4 h5
        · exact pone_ok s w hV hE hl h1 h2 a b c v h3 h4 h5
   · exact pone_nothing s w hV hE hl h1 h2
end Go.Proofs.YtjaebndajhppgaaGreatDoor
