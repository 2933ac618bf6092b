/-GPr4-/
import Derived.Test.YtjaebndajhppgaaGreatDoorMnGPr3
import Derived.Test.YtjaebndajhppgaaGreatDoorMnGLn1
set_option linter.unusedVariables false
set_option linter.unusedSimpArgs false
set_option maxRecDepth 100000
set_option maxHeartbeats 8000000
namespace Go.Proofs.YtjaebndajhppgaaGreatDoor
open Go.ChangeShapes Go.WideShapes Go.ChangeAt Go.RowKit
theorem pterm_iri_no (q:Nat) (l:List UInt8) (i:Nat) (w:World) (hE:ErrAt w) (hq:q≠4) (hr:Pr w q l i) (hl:l.length≤10000000) (hi:i≤l.length) (u:List UInt8) (hd:l.drop i=60::u) (h:Tm.upU 62 false u=none) :
  Calls Tryz.prog 173 #[rdp q] w (TermPost q l w (Tm.rterm (l.drop i))):=by
 have HN:=hid (show Tm.rterm (l.drop i)=none by rw [hd,Tm.rterm_up62,h];rfl)
 rw [HN.out]
 have hlt:=hr.lt
 have HE:=hid (fun W hB=>hE.but (w':=W) hB hq)
 have HR1:=hid (hr.keep ((Below.refl _ _).alloc (Nat.le_refl _) (.cells #[.int .i64 0,.string ⟨#[]⟩,.string ⟨#[]⟩] 61)))
 have S1:=hid (fun (W:World) (hr:Pr W q l i)=>pskip_is q l [60] i W hr (by omega) hi (by decide) (by rw [hd];rfl))
 obtain ⟨hjl,_,hdu⟩:=drop_get l i 60 u hd
 have U2:Hid (∀ (W:World),But q w W→Pr W q l (i+1)→Calls Tryz.prog 206 #[rdp q,.int .u8 62,.bool false] W fun x w'=>x=.returned (.tuple #[str [],.bool false])∧(∃ k,k≤l.length∧((none:Option (List UInt8×List UInt8))≠none→l.drop k=[])∧Pr w' q l k)∧But q W w'):=by
  intro W hB hr
  have:=pup_any q l (i+1) 62 false W (HE.out W hB) hq hr hl hjl (by decide) (by decide)
  rw [hdu,h] at this
  exact this
 clear hr hE h hd hdu
 go_enter Tryz.func173,Tryz.ntmps173
 have HB1:=hid (show But q w (w.alloc (.cells #[.int .i64 0,.string ⟨#[]⟩,.string ⟨#[]⟩] 61)) from But.below ((Below.refl w.heap.size w).alloc (Nat.le_refl _) _))
 have HT1:=hid (Blk.new w [.int .i64 0,str [],str []] 61)
 go_wp2_with fail
 refine (S1.out _ HR1.out).mono ?_
 rintro x w2 ⟨rfl,hr2,hb2⟩
 have HT2:=hid (But.blk HT1.out hb2 (by omega))
 have HB2:=hid (HB1.out.trans hb2)
 have HR2:=hid hr2
 clear hr2 hb2
 go_wp2_with fail
 refine (U2.out _ HB2.out HR2.out).mono ?_
 rintro x w3 ⟨rfl,⟨k,hk,hkd,hr3⟩,hb3⟩
 have HK:=hid hkd
 clear hkd
 have HT3:=hid (But.blk HT2.out hb3 (by omega))
 have HB3:=hid (HB2.out.trans hb3)
 have HR3:=hid hr3
 clear hr3 hb3
 have g0:=HT3.out.cell (i:=0) rfl
 have g1:=HT3.out.cell (i:=1) rfl
 have g2:=HT3.out.cell (i:=2) rfl
 have k0:=HT3.out.free 0
 have k1:=HT3.out.free 1
 have k2:=HT3.out.free 2
 go_wp2
 have HX:=fin_end (hT:=HT3.out) (v0:=.int .i64 (1:Nat)) (v1:=.string ⟨([]:List UInt8).toArray⟩) (v2:=.string ⟨([]:List UInt8).toArray⟩) (hq:=HR3.out) (hne:=by omega) (hB:=HB3.out) (hb:=Nat.le_refl _)
 obtain ⟨hx1,hx2,hx3⟩:=HX
 exact bodyPost_ret (v:=.tuple #[tmV (1:Nat) ([]) ([]),.bool false]) (struct_ret2 rfl rfl hx1 Tryz.results173) rfl ⟨hx3,⟨1,[],[],rfl⟩,k,hk,hx2⟩
theorem pterm_iri (q:Nat) (l:List UInt8) (i:Nat) (w:World) (hE:ErrAt w) (hq:q≠4) (hr:Pr w q l i) (hl:l.length≤10000000) (hi:i≤l.length) (u t v:List UInt8) (hd:l.drop i=60::u) (h:Tm.upU 62 false u=some (t,v)) :
  Calls Tryz.prog 173 #[rdp q] w (TermPost q l w (Tm.rterm (l.drop i))):=by
 have HN:=hid (show Tm.rterm (l.drop i)=some (1,t,[],v) by rw [hd,Tm.rterm_up62,h];rfl)
 rw [HN.out]
 have hlt:=hr.lt
 have HE:=hid (fun W hB=>hE.but (w':=W) hB hq)
 have HR1:=hid (hr.keep ((Below.refl _ _).alloc (Nat.le_refl _) (.cells #[.int .i64 0,.string ⟨#[]⟩,.string ⟨#[]⟩] 61)))
 have S1:=hid (fun (W:World) (hr:Pr W q l i)=>pskip_is q l [60] i W hr (by omega) hi (by decide) (by rw [hd];rfl))
 obtain ⟨hjl,_,hdu⟩:=drop_get l i 60 u hd
 have U2:Hid (∀ (W:World),But q w W→Pr W q l (i+1)→Calls Tryz.prog 206 #[rdp q,.int .u8 62,.bool false] W fun x w'=>x=.returned (.tuple #[str t,.bool true])∧(∃ k,k≤l.length∧(some (t,v)≠none→l.drop k=v)∧Pr w' q l k)∧But q W w'):=by
  intro W hB hr
  have:=pup_any q l (i+1) 62 false W (HE.out W hB) hq hr hl hjl (by decide) (by decide)
  rw [hdu,h] at this
  exact this
 clear hr hE h hd hdu
 go_enter Tryz.func173,Tryz.ntmps173
 have HB1:=hid (show But q w (w.alloc (.cells #[.int .i64 0,.string ⟨#[]⟩,.string ⟨#[]⟩] 61)) from But.below ((Below.refl w.heap.size w).alloc (Nat.le_refl _) _))
 have HT1:=hid (Blk.new w [.int .i64 0,str [],str []] 61)
 go_wp2_with fail
 refine (S1.out _ HR1.out).mono ?_
 rintro x w2 ⟨rfl,hr2,hb2⟩
 have HT2:=hid (But.blk HT1.out hb2 (by omega))
 have HB2:=hid (HB1.out.trans hb2)
 have HR2:=hid hr2
 clear hr2 hb2
 go_wp2_with fail
 refine (U2.out _ HB2.out HR2.out).mono ?_
 rintro x w3 ⟨rfl,⟨k,hk,hkd,hr3⟩,hb3⟩
 have HK:=hid hkd
 clear hkd
 have HT3:=hid (But.blk HT2.out hb3 (by omega))
 have HB3:=hid (HB2.out.trans hb3)
 have HR3:=hid hr3
 clear hr3 hb3
 have g0:=HT3.out.cell (i:=0) rfl
 have g1:=HT3.out.cell (i:=1) rfl
 have g2:=HT3.out.cell (i:=2) rfl
 have k0:=HT3.out.free 0
 have k1:=HT3.out.free 1
 have k2:=HT3.out.free 2
 go_wp2
 have HX:=fin_end (hT:=HT3.out) (v0:=.int .i64 (1:Nat)) (v1:=.string ⟨(t:List UInt8).toArray⟩) (v2:=.string ⟨([]:List UInt8).toArray⟩) (hq:=HR3.out) (hne:=by omega) (hB:=HB3.out) (hb:=Nat.le_refl _)
 obtain ⟨hx1,hx2,hx3⟩:=HX
 exact bodyPost_ret (v:=.tuple #[tmV (1:Nat) (t) ([]),.bool true]) (struct_ret2 rfl rfl hx1 Tryz.results173) rfl ⟨hx3,rfl,k,hk,HK.out (by simp),hx2⟩
theorem pterm_bl (q:Nat) (l:List UInt8) (i:Nat) (w:World) (hE:ErrAt w) (hq:q≠4) (hr:Pr w q l i) (hl:l.length≤10000000) (hi:i≤l.length) (u:List UInt8) (hd:l.drop i=95::58::u) :
  Calls Tryz.prog 173 #[rdp q] w (TermPost q l w (Tm.rterm (l.drop i))):=by
 have HN:=hid (show Tm.rterm (l.drop i)=some (2,u.takeWhile Tm.alnum,[],u.dropWhile Tm.alnum) by rw [hd,Tm.rterm_95])
 rw [HN.out]
 have hlt:=hr.lt
 have HE:=hid (fun W hB=>hE.but (w':=W) hB hq)
 have HR1:=hid (hr.keep ((Below.refl _ _).alloc (Nat.le_refl _) (.cells #[.int .i64 0,.string ⟨#[]⟩,.string ⟨#[]⟩] 61)))
 have S1:=hid (fun (W:World) (hr:Pr W q l i)=>pskip_not q l [60] i W hr (by omega) hi (by decide) (by rw [hd];simp))
 have S2:=hid (fun (W:World) (hr:Pr W q l i)=>pskip_is q l [95,58] i W hr (by omega) hi (by decide) (by rw [hd];rfl))
 have hdu:l.drop (i+2)=u∧i+2≤l.length:=by
  have e2:=congrArg List.length hd
  rw [List.length_drop] at e2
  simp only [List.length_cons] at e2
  exact ⟨by rw [show l.drop (i+2)=(l.drop i).drop 2 by rw [List.drop_drop],hd];rfl,by omega⟩
 obtain ⟨nm,hnm⟩:∃ nm,nm=u.takeWhile Tm.alnum:=⟨_,rfl⟩
 have NM:Hid (∀ (W:World),Pr W q l (i+2)→Calls Tryz.prog 207 #[rdp q,.func (.func 208) #[] #[]] W fun x w'=>x=.returned (str nm)∧(∃ k,k≤l.length∧l.drop k=u.dropWhile Tm.alnum∧Pr w' q l k)∧But q W w'):=by
  intro W hr
  have:=pname_any 208 q Tm.alnum l (i+2) W (enters_of Tryz.func208 (by kernel_rfl) rfl) (fun c W=>plabel_any c W) hr (by omega) hdu.2
  rw [hdu.1,←hnm] at this
  exact this
 rw [←hnm]
 clear hr hE hd hdu hnm
 go_enter Tryz.func173,Tryz.ntmps173
 have HB1:=hid (show But q w (w.alloc (.cells #[.int .i64 0,.string ⟨#[]⟩,.string ⟨#[]⟩] 61)) from But.below ((Below.refl w.heap.size w).alloc (Nat.le_refl _) _))
 have HT1:=hid (Blk.new w [.int .i64 0,str [],str []] 61)
 go_wp2_with fail
 refine (S1.out _ HR1.out).mono ?_
 rintro x w2 ⟨rfl,hr2,hb2⟩
 have HT2:=hid (But.blk HT1.out hb2 (by omega))
 have HB2:=hid (HB1.out.trans hb2)
 have HR2:=hid hr2
 clear hr2 hb2
 go_wp2_with fail
 refine (S2.out _ HR2.out).mono ?_
 rintro x w3 ⟨rfl,hr3,hb3⟩
 have HT3:=hid (But.blk HT2.out hb3 (by omega))
 have HB3:=hid (HB2.out.trans hb3)
 have HR3:=hid hr3
 clear hr3 hb3
 go_wp2_with fail
 refine (NM.out _ HR3.out).mono ?_
 rintro x w4 ⟨rfl,⟨k,hk,hkd,hr4⟩,hb4⟩
 have HK:=hid hkd
 clear hkd
 have HT4:=hid (But.blk HT3.out hb4 (by omega))
 have HB4:=hid (HB3.out.trans hb4)
 have HR4:=hid hr4
 clear hr4 hb4
 have g0:=HT4.out.cell (i:=0) rfl
 have g1:=HT4.out.cell (i:=1) rfl
 have g2:=HT4.out.cell (i:=2) rfl
 have k0:=HT4.out.free 0
 have k1:=HT4.out.free 1
 have k2:=HT4.out.free 2
 go_wp2
 have HX:=fin_end (hT:=HT4.out) (v0:=.int .i64 (2:Nat)) (v1:=.string ⟨(nm:List UInt8).toArray⟩) (v2:=.string ⟨([]:List UInt8).toArray⟩) (hq:=HR4.out) (hne:=by omega) (hB:=HB4.out) (hb:=Nat.le_refl _)
 obtain ⟨hx1,hx2,hx3⟩:=HX
 exact bodyPost_ret (v:=.tuple #[tmV (2:Nat) (nm) ([]),.bool true]) (struct_ret2 rfl rfl hx1 Tryz.results173) rfl ⟨hx3,rfl,k,hk,HK.out,hx2⟩
theorem pterm_lit_no (q:Nat) (l:List UInt8) (i:Nat) (w:World) (hE:ErrAt w) (hq:q≠4) (hr:Pr w q l i) (hl:l.length≤10000000) (hi:i≤l.length) (u:List UInt8) (hd:l.drop i=34::u) (h:Tm.rlit u=none) :
  Calls Tryz.prog 173 #[rdp q] w (TermPost q l w (Tm.rterm (l.drop i))):=by
 have HN:=hid (show Tm.rterm (l.drop i)=none by rw [hd,Tm.rterm_34,h])
 rw [HN.out]
 have hlt:=hr.lt
 have HE:=hid (fun W hB=>hE.but (w':=W) hB hq)
 have HR1:=hid (hr.keep ((Below.refl _ _).alloc (Nat.le_refl _) (.cells #[.int .i64 0,.string ⟨#[]⟩,.string ⟨#[]⟩] 61)))
 have S1:=hid (fun (W:World) (hr:Pr W q l i)=>pskip_not q l [60] i W hr (by omega) hi (by decide) (by rw [hd];simp))
 have S2:=hid (fun (W:World) (hr:Pr W q l i)=>pskip_not q l [95,58] i W hr (by omega) hi (by decide) (by rw [hd];simp))
 have S3:=hid (fun (W:World) (hr:Pr W q l i)=>pskip_is q l [34] i W hr (by omega) hi (by decide) (by rw [hd];rfl))
 obtain ⟨hjl,_,hdu⟩:=drop_get l i 34 u hd
 have U2:Hid (∀ (W:World),But q w W→Pr W q l (i+1)→Calls Tryz.prog 209 #[rdp q] W fun e w'=>But q W w'∧(∃ (k:Nat) (t x:List UInt8),e=.returned (.tuple #[tmV (k:Nat) t x,.bool false]))∧∃ j,j≤l.length∧Pr w' q l j):=by
  intro W hB hr
  have:=plit_any q l (i+1) W (HE.out W hB) hq hr hl hjl
  rw [hdu,h] at this
  exact this
 clear hr hE h hd hdu
 go_enter Tryz.func173,Tryz.ntmps173
 have HB1:=hid (show But q w (w.alloc (.cells #[.int .i64 0,.string ⟨#[]⟩,.string ⟨#[]⟩] 61)) from But.below ((Below.refl w.heap.size w).alloc (Nat.le_refl _) _))
 have HT1:=hid (Blk.new w [.int .i64 0,str [],str []] 61)
 go_wp2_with fail
 refine (S1.out _ HR1.out).mono ?_
 rintro x w2 ⟨rfl,hr2,hb2⟩
 have HT2:=hid (But.blk HT1.out hb2 (by omega))
 have HB2:=hid (HB1.out.trans hb2)
 have HR2:=hid hr2
 clear hr2 hb2
 go_wp2_with fail
 refine (S2.out _ HR2.out).mono ?_
 rintro x w3 ⟨rfl,hr3,hb3⟩
 have HT3:=hid (But.blk HT2.out hb3 (by omega))
 have HB3:=hid (HB2.out.trans hb3)
 have HR3:=hid hr3
 clear hr3 hb3
 go_wp2_with fail
 refine (S3.out _ HR3.out).mono ?_
 rintro x w4 ⟨rfl,hr4,hb4⟩
 have HT4:=hid (But.blk HT3.out hb4 (by omega))
 have HB4:=hid (HB3.out.trans hb4)
 have HR4:=hid hr4
 clear hr4 hb4
 go_wp2_with fail
 refine (U2.out _ HB4.out HR4.out).mono ?_
 rintro _ w5 ⟨hb5,⟨k,t,x,rfl⟩,n,hn,hr5⟩
 have HT5:=hid (But.blk HT4.out hb5 (by omega))
 have HB5:=hid (HB4.out.trans hb5)
 have HR5:=hid hr5
 clear hr5 hb5
 have g0:=HT5.out.cell (i:=0) rfl
 have g1:=HT5.out.cell (i:=1) rfl
 have g2:=HT5.out.cell (i:=2) rfl
 have k0:=HT5.out.free 0
 have k1:=HT5.out.free 1
 have k2:=HT5.out.free 2
 go_wp2
 have HX:=fin_end (hT:=HT5.out) (v0:=.int .i64 (k:Nat)) (v1:=.string ⟨(t:List UInt8).toArray⟩) (v2:=.string ⟨(x:List UInt8).toArray⟩) (hq:=HR5.out) (hne:=by omega) (hB:=HB5.out) (hb:=Nat.le_refl _)
 obtain ⟨hx1,hx2,hx3⟩:=HX
 exact bodyPost_ret (v:=.tuple #[tmV (k:Nat) (t) (x),.bool false]) (struct_ret2 rfl rfl hx1 Tryz.results173) rfl ⟨hx3,⟨k,t,x,rfl⟩,n,hn,hx2⟩
theorem pterm_lit (q:Nat) (l:List UInt8) (i:Nat) (w:World) (hE:ErrAt w) (hq:q≠4) (hr:Pr w q l i) (hl:l.length≤10000000) (hi:i≤l.length) (u:List UInt8) (hd:l.drop i=34::u) (k:Nat) (t x v:List UInt8) (h:Tm.rlit u=some (k,t,x,v)) :
  Calls Tryz.prog 173 #[rdp q] w (TermPost q l w (Tm.rterm (l.drop i))):=by
 have HN:=hid (show Tm.rterm (l.drop i)=some (k,t,x,v) by rw [hd,Tm.rterm_34,h])
 rw [HN.out]
 have hlt:=hr.lt
 have HE:=hid (fun W hB=>hE.but (w':=W) hB hq)
 have HR1:=hid (hr.keep ((Below.refl _ _).alloc (Nat.le_refl _) (.cells #[.int .i64 0,.string ⟨#[]⟩,.string ⟨#[]⟩] 61)))
 have S1:=hid (fun (W:World) (hr:Pr W q l i)=>pskip_not q l [60] i W hr (by omega) hi (by decide) (by rw [hd];simp))
 have S2:=hid (fun (W:World) (hr:Pr W q l i)=>pskip_not q l [95,58] i W hr (by omega) hi (by decide) (by rw [hd];simp))
 have S3:=hid (fun (W:World) (hr:Pr W q l i)=>pskip_is q l [34] i W hr (by omega) hi (by decide) (by rw [hd];rfl))
 obtain ⟨hjl,_,hdu⟩:=drop_get l i 34 u hd
 have U2:Hid (∀ (W:World),But q w W→Pr W q l (i+1)→Calls Tryz.prog 209 #[rdp q] W fun e w'=>But q W w'∧e=.returned (.tuple #[tmV (k:Nat) t x,.bool true])∧∃ j,j≤l.length∧l.drop j=v∧Pr w' q l j):=by
  intro W hB hr
  have:=plit_any q l (i+1) W (HE.out W hB) hq hr hl hjl
  rw [hdu,h] at this
  exact this
 clear hr hE h hd hdu
 go_enter Tryz.func173,Tryz.ntmps173
 have HB1:=hid (show But q w (w.alloc (.cells #[.int .i64 0,.string ⟨#[]⟩,.string ⟨#[]⟩] 61)) from But.below ((Below.refl w.heap.size w).alloc (Nat.le_refl _) _))
 have HT1:=hid (Blk.new w [.int .i64 0,str [],str []] 61)
 go_wp2_with fail
 refine (S1.out _ HR1.out).mono ?_
 rintro x w2 ⟨rfl,hr2,hb2⟩
 have HT2:=hid (But.blk HT1.out hb2 (by omega))
 have HB2:=hid (HB1.out.trans hb2)
 have HR2:=hid hr2
 clear hr2 hb2
 go_wp2_with fail
 refine (S2.out _ HR2.out).mono ?_
 rintro x w3 ⟨rfl,hr3,hb3⟩
 have HT3:=hid (But.blk HT2.out hb3 (by omega))
 have HB3:=hid (HB2.out.trans hb3)
 have HR3:=hid hr3
 clear hr3 hb3
 go_wp2_with fail
 refine (S3.out _ HR3.out).mono ?_
 rintro x w4 ⟨rfl,hr4,hb4⟩
 have HT4:=hid (But.blk HT3.out hb4 (by omega))
 have HB4:=hid (HB3.out.trans hb4)
 have HR4:=hid hr4
 clear hr4 hb4
 go_wp2_with fail
 refine (U2.out _ HB4.out HR4.out).mono ?_
 rintro _ w5 ⟨hb5,rfl,n,hn,hnd,hr5⟩
 have HK:=hid hnd
 clear hnd
 have HT5:=hid (But.blk HT4.out hb5 (by omega))
 have HB5:=hid (HB4.out.trans hb5)
 have HR5:=hid hr5
 clear hr5 hb5
 have g0:=HT5.out.cell (i:=0) rfl
 have g1:=HT5.out.cell (i:=1) rfl
 have g2:=HT5.out.cell (i:=2) rfl
 have k0:=HT5.out.free 0
 have k1:=HT5.out.free 1
 have k2:=HT5.out.free 2
 go_wp2
 have HX:=fin_end (hT:=HT5.out) (v0:=.int .i64 (k:Nat)) (v1:=.string ⟨(t:List UInt8).toArray⟩) (v2:=.string ⟨(x:List UInt8).toArray⟩) (hq:=HR5.out) (hne:=by omega) (hB:=HB5.out) (hb:=Nat.le_refl _)
 obtain ⟨hx1,hx2,hx3⟩:=HX
 exact bodyPost_ret (v:=.tuple #[tmV (k:Nat) (t) (x),.bool true]) (struct_ret2 rfl rfl hx1 Tryz.results173) rfl ⟨hx3,rfl,n,hn,HK.out,hx2⟩
theorem pterm_no (q:Nat) (l:List UInt8) (i:Nat) (w:World) (hE:ErrAt w) (hq:q≠4) (hr:Pr w q l i) (hl:l.length≤10000000) (hi:i≤l.length) (h1:(l.drop i).take 1≠[60]) (h2:(l.drop i).take 2≠[95,58]) (h3:(l.drop i).take 1≠[34]) :
  Calls Tryz.prog 173 #[rdp q] w (TermPost q l w (Tm.rterm (l.drop i))):=by
 have HN:=hid (show Tm.rterm (l.drop i)=none from Tm.rterm_none h1 h2 h3)
 rw [HN.out]
 have hlt:=hr.lt
 have HE:=hid (fun W hB=>hE.but (w':=W) hB hq)
 have HR1:=hid (hr.keep ((Below.refl _ _).alloc (Nat.le_refl _) (.cells #[.int .i64 0,.string ⟨#[]⟩,.string ⟨#[]⟩] 61)))
 have S1:=hid (fun (W:World) (hr:Pr W q l i)=>pskip_not q l [60] i W hr (by omega) hi (by decide) (h1))
 have S2:=hid (fun (W:World) (hr:Pr W q l i)=>pskip_not q l [95,58] i W hr (by omega) hi (by decide) (h2))
 have S3:=hid (fun (W:World) (hr:Pr W q l i)=>pskip_not q l [34] i W hr (by omega) hi (by decide) (h3))
 clear hr hE h1 h2 h3
 go_enter Tryz.func173,Tryz.ntmps173
 have HB1:=hid (show But q w (w.alloc (.cells #[.int .i64 0,.string ⟨#[]⟩,.string ⟨#[]⟩] 61)) from But.below ((Below.refl w.heap.size w).alloc (Nat.le_refl _) _))
 have HT1:=hid (Blk.new w [.int .i64 0,str [],str []] 61)
 go_wp2_with fail
 refine (S1.out _ HR1.out).mono ?_
 rintro x w2 ⟨rfl,hr2,hb2⟩
 have HT2:=hid (But.blk HT1.out hb2 (by omega))
 have HB2:=hid (HB1.out.trans hb2)
 have HR2:=hid hr2
 clear hr2 hb2
 go_wp2_with fail
 refine (S2.out _ HR2.out).mono ?_
 rintro x w3 ⟨rfl,hr3,hb3⟩
 have HT3:=hid (But.blk HT2.out hb3 (by omega))
 have HB3:=hid (HB2.out.trans hb3)
 have HR3:=hid hr3
 clear hr3 hb3
 go_wp2_with fail
 refine (S3.out _ HR3.out).mono ?_
 rintro x w4 ⟨rfl,hr4,hb4⟩
 have HT4:=hid (But.blk HT3.out hb4 (by omega))
 have HB4:=hid (HB3.out.trans hb4)
 have HR4:=hid hr4
 clear hr4 hb4
 have g0:=HT4.out.cell (i:=0) rfl
 have g1:=HT4.out.cell (i:=1) rfl
 have g2:=HT4.out.cell (i:=2) rfl
 have k0:=HT4.out.free 0
 have k1:=HT4.out.free 1
 have k2:=HT4.out.free 2
 go_wp2
 have HX:=fin_end (hT:=HT4.out) (v0:=.int .i64 (0:Nat)) (v1:=.string ⟨([]:List UInt8).toArray⟩) (v2:=.string ⟨([]:List UInt8).toArray⟩) (hq:=HR4.out) (hne:=by omega) (hB:=HB4.out) (hb:=Nat.le_refl _)
 obtain ⟨hx1,hx2,hx3⟩:=HX
 exact bodyPost_ret (v:=.tuple #[tmV (0:Nat) ([]) ([]),.bool false]) (struct_ret2 rfl rfl hx1 Tryz.results173) rfl ⟨hx3,⟨0,[],[],rfl⟩,i,hi,hx2⟩
theorem pterm_any (q:Nat) (l:List UInt8) (i:Nat) (w:World) (hE:ErrAt w) (hq:q≠4) (hr:Pr w q l i) (hl:l.length≤10000000) (hi:i≤l.length) :
  Calls Tryz.prog 173 #[rdp q] w (TermPost q l w (Tm.rterm (l.drop i))):=by
 by_cases h1:(l.drop i).take 1=[60]
 · obtain ⟨u,hd⟩:=take_one h1
   cases h:Tm.upU 62 false u with
   | none=>exact pterm_iri_no q l i w hE hq hr hl hi u hd h
   | some p=>obtain ⟨t,v⟩:=p;exact pterm_iri q l i w hE hq hr hl hi u t v hd h
 · by_cases h2:(l.drop i).take 2=[95,58]
   · obtain ⟨u,hd⟩:∃ u,l.drop i=95::58::u:=⟨(l.drop i).drop 2,by have:=List.take_append_drop 2 (l.drop i);rw [h2] at this;exact this.symm⟩
     exact pterm_bl q l i w hE hq hr hl hi u hd
   · by_cases h3:(l.drop i).take 1=[34]
     · obtain ⟨u,hd⟩:=take_one h3
       cases h:Tm.rlit u with
       | none=>exact pterm_lit_no q l i w hE hq hr hl hi u hd h
       | some p=>obtain ⟨k,t,x,v⟩:=p;exact pterm_lit q l i w hE hq hr hl hi u hd k t x v h
     · exact pterm_no q l i w hE hq hr hl hi h1 h2 h3
theorem tri_ret {fn:Func} {tmps:Array Value} {Z:World} {b:Nat} {v0 v1 v2 v3 v4 v5 v6 v7 v8 u:Value} (ht:tmps.getD 2 undef=.pointer (some ⟨b,0,none⟩)) (h3:tmps.getD 3 undef=u) (hZ:Blk Z b [v0,v1,v2,v3,v4,v5,v6,v7,v8] 67) (hf:fn.results=#[.cell 2 67,.tmp 3]) :
  (results fn tmps).run Tryz.prog Z=.ok (.tuple #[.agg #[v0,v1,v2,v3,v4,v5,v6,v7,v8],u]) Z:=by
 have h0:=hZ.cell (i:=0) rfl
 have h1:=hZ.cell (i:=1) rfl
 have h2:=hZ.cell (i:=2) rfl
 have h4:=hZ.cell (i:=3) rfl
 have h5:=hZ.cell (i:=4) rfl
 have h6:=hZ.cell (i:=5) rfl
 have h7:=hZ.cell (i:=6) rfl
 have h8:=hZ.cell (i:=7) rfl
 have h9:=hZ.cell (i:=8) rfl
 have ht':tmps[2]?.getD undef=.pointer (some ⟨b,0,none⟩):=by simpa using ht
 have h3':tmps[3]?.getD undef=u:=by simpa using h3
 simp [results,hf,ht',h3',go_sem,h0,h1,h2,h4,h5,h6,h7,h8,h9]
abbrev z9:List Value:=[.int .i64 0,.string ⟨#[]⟩,.string ⟨#[]⟩,.int .i64 0,.string ⟨#[]⟩,.string ⟨#[]⟩,.int .i64 0,.string ⟨#[]⟩,.string ⟨#[]⟩]
def arrL:List Tm.T3→List Value
 | []=>z9
 | [a]=>[.int .i64 (a.1:Nat),str a.2.1,str a.2.2,.int .i64 0,.string ⟨#[]⟩,.string ⟨#[]⟩,.int .i64 0,.string ⟨#[]⟩,.string ⟨#[]⟩]
 | [a,b]=>[.int .i64 (a.1:Nat),str a.2.1,str a.2.2,.int .i64 (b.1:Nat),str b.2.1,str b.2.2,.int .i64 0,.string ⟨#[]⟩,.string ⟨#[]⟩]
 | a::b::c::_=>[.int .i64 (a.1:Nat),str a.2.1,str a.2.2,.int .i64 (b.1:Nat),str b.2.1,str b.2.2,.int .i64 (c.1:Nat),str c.2.1,str c.2.2]
def rts:Nat→List UInt8→Option (List Tm.T3×List UInt8)
 | 0,s=>some ([],s)
 | n+1,s=>match Tm.rt s with
  | none=>none
  | some (a,r)=>(rts n r).map fun p=>(a::p.1,p.2)
theorem rts_some {n:Nat} {s r:List UInt8} {a:Tm.T3} (h:Tm.rt s=some (a,r)):rts (n+1) s=(rts n r).map fun p=>(a::p.1,p.2):=by rw [rts,h]
theorem rts_none {n:Nat} {s:List UInt8} (h:Tm.rt s=none):rts (n+1) s=none:=by rw [rts,h]
def triOf:Option (List Tm.T3×List UInt8)→Option ((Tm.T3×Tm.T3×Tm.T3)×List UInt8)
 | some ([a,b,c],v)=>(Tm.point v).map fun z=>((a,b,c),z)
 | _=>none
theorem rts_rtri (s:List UInt8):Tm.rtri s=triOf (rts 3 s):=by
 unfold Tm.rtri rts triOf
 cases Tm.rt s with
 | none=>rfl
 | some p=>
  obtain ⟨a,r⟩:=p
  simp only
  unfold rts
  cases Tm.rt r with
  | none=>rfl
  | some p=>
   obtain ⟨b,u⟩:=p
   simp only
   unfold rts
   cases Tm.rt u with
   | none=>rfl
   | some p=>
    obtain ⟨c,v⟩:=p
    simp only [rts,Option.map_some]
    cases Tm.point v <;> rfl
theorem rt_none {s:List UInt8} (h:Tm.rterm s=none):Tm.rt s=none:=by unfold Tm.rt;rw [h]
theorem rt_some {s t x v:List UInt8} {k:Nat} (h:Tm.rterm s=some (k,t,x,v)):Tm.rt s=some ((k,t,x),v.dropWhile blankC):=by unfold Tm.rt;rw [h]
def new3 (w:World) (v0 v1 v2:Value):World:=w.alloc (.cells #[v0,v1,v2] 61)
theorem new3_blk {w:World} {b:Nat} {A:List Value} {t:TypeId} (h:Blk w b A t) (v0 v1 v2:Value):Blk (new3 w v0 v1 v2) b A t:=h.alloc _
theorem new3_pr {w:World} {q i:Nat} {l:List UInt8} (h:Pr w q l i) (v0 v1 v2:Value):Pr (new3 w v0 v1 v2) q l i:=new3_blk h v0 v1 v2
theorem new3_new (w:World) (v0 v1 v2:Value):Blk (new3 w v0 v1 v2) w.heap.size [v0,v1,v2] 61:=Blk.new' rfl rfl
theorem but_set {q b:Nat} {w X:World} (h:But q w X) (hb:w.heap.size≤b) (i:Nat) (v:Value):But q w (X.setCell ⟨b,i,none⟩ v):=
 ⟨h.os,h.tape,h.output,by have:=h.size;simpa using this,fun k hk hn=>by rw [Below.heap_setCell _ _ _ _ (by show k≠b;omega)];exact h.block k hk hn⟩
theorem new3_but {w X:World} {q:Nat} (h:But q w X) (v0 v1 v2:Value):But q w (new3 X v0 v1 v2):=h.trans (But.below ((Below.refl _ _).alloc (Nat.le_refl _) _))
def TriPost (q:Nat) (l:List UInt8) (w:World) (r:Option ((Tm.T3×Tm.T3×Tm.T3)×List UInt8)) (e:Ending) (w':World):Prop:=
 But q w w'∧match r with
  | none=>e=.returned (.tuple #[.agg z9.toArray,.bool false])
  | some ((a,b,c),v)=>e=.returned (.tuple #[.agg (arrL [a,b,c]).toArray,.bool true])∧∃ j,j≤l.length∧l.drop j=v∧Pr w' q l j
theorem ptri_any (q:Nat) (l:List UInt8) (i:Nat) (w:World) (hE:ErrAt w) (hq:q≠4) (hr:Pr w q l i) (hl:l.length≤10000000) (hi:i≤l.length) :
  Calls Tryz.prog 125 #[rdp q] w (TriPost q l w (Tm.rtri (l.drop i))):=by
 have HR:=hid hr
 have hlt:=hr.lt
 have PT:=hid (fun W j hB hr hj=>pterm_any q l j W (hE.but (w':=W) hB hq) hq hr hl hj)
 have BL:=hid (fun W j hr hj=>pblanks_any q l j W hr (by omega) hj)
 obtain ⟨ANS,hA⟩:∃ a,a=rts 3 (l.drop i):=⟨_,rfl⟩
 rw [rts_rtri,←hA]
 have HA:=hid (show ANS=(rts (3-0) (l.drop i)).map (fun p=>([]++p.1,p.2)) by rw [hA];cases rts 3 (l.drop i) <;> rfl)
 clear hr hE hA
 go_enter Tryz.func125,Tryz.ntmps125
 have HB0:=hid (show But q w ((w.alloc (.cells z9.toArray 67)).alloc (.cells z9.toArray 239)) from But.below (((Below.refl w.heap.size w).alloc (Nat.le_refl _) _).alloc (by simp) _))
 have HR0:=hid ((HR.out.keep ((Below.refl _ _).alloc (Nat.le_refl _) (.cells z9.toArray 67))).keep ((Below.refl _ _).alloc (Nat.le_refl _) (.cells z9.toArray 239)))
 have HT0:=hid ((Blk.new w z9 67).alloc (.cells z9.toArray 239))
 have HU0:=hid (show Blk ((w.alloc (.cells z9.toArray 67)).alloc (.cells z9.toArray 239)) (w.heap.size+1) z9 239 from Blk.new' (by simp) rfl)
 go_wp2
 go_loopg [5,6,7,8] 3 (fun gk s5 s6 s7 s8 wr=>∃ (al:List Tm.T3) (j:Nat) (z8:Int),al.length≤3∧s8=.int .i64 z8∧z8=(al.length:Int)∧3-al.length≤gk∧j≤l.length∧Hid (Pr wr q l j)∧Hid (But q w wr)∧Hid (Blk wr w.heap.size z9 67)∧Hid (Blk wr (w.heap.size+1) (arrL al) 239)∧Hid (ANS=(rts (3-al.length) (l.drop j)).map (fun p=>(al++p.1,p.2))))
 case atStart=>exact ⟨[],i,0,by simp,rfl,rfl,by simp,hi,HR0,HB0,HT0,HU0,HA⟩
 case round=>
  obtain ⟨al,j,z8,has,rfl,h8,hg,hj,HR,HB,HT,HU,HA⟩:=hrel
  have hzr:w.heap.size+2≤wr.heap.size:=by have:=HU.out.lt;omega
  rcases al with _ | ⟨a,_ | ⟨b,_ | ⟨c,_ | ⟨d,r⟩⟩⟩⟩
  · obtain rfl:z8=0:=h8
    have PTj:=hid (fun W hB hr=>PT.out W j hB hr hj)
    cases hx:Tm.rterm (l.drop j) with
    | none=>
     rw [hx] at PTj
     have PT2:Hid (∀ W,But q w W→Pr W q l j→Calls Tryz.prog 173 #[rdp q] W fun e w'=>But q W w'∧(∃ (k:Nat) (t x:List UInt8),e=.returned (.tuple #[tmV (k:Nat) t x,.bool false]))∧∃ j,j≤l.length∧Pr w' q l j):=PTj
     have HF:=hid (show ANS=none by rw [HA.out];show (rts 3 (l.drop j)).map _=none;rw [rts_none (rt_none hx)];rfl)
     clear PTj hx HA
     go_wp2_with fail
     refine (PT2.out _ HB.out HR.out).mono ?_
     rintro _ w2 ⟨hb2,⟨k,t,x,rfl⟩,n,hn,hr2⟩
     have HB2:=hid (HB.out.trans hb2)
     have HT2:=hid (But.blk HT.out hb2 (by omega))
     have hz2:=hb2.size
     clear hb2 hr2
     have HB3:=hid (new3_but HB2.out (.int .i64 (k:Nat)) (str t) (str x))
     have HT3:=hid (new3_blk HT2.out (.int .i64 (k:Nat)) (str t) (str x))
     go_wp2_with (show wpList _ _ _ _ _ (new3 w2 (.int .i64 (k:Nat)) (str t) (str x));obtain ⟨w3,hw3⟩:∃ w3,w3=new3 w2 (.int .i64 (k:Nat)) (str t) (str x):=⟨_,rfl⟩;rw [←hw3] at HB3 HT3 ⊢;clear hw3;have g0:=HT3.out.cell (i:=0) rfl;have k0:=HT3.out.free 0;have g1:=HT3.out.cell (i:=1) rfl;have k1:=HT3.out.free 1;have g2:=HT3.out.cell (i:=2) rfl;have k2:=HT3.out.free 2;have g3:=HT3.out.cell (i:=3) rfl;have k3:=HT3.out.free 3;have g4:=HT3.out.cell (i:=4) rfl;have k4:=HT3.out.free 4;have g5:=HT3.out.cell (i:=5) rfl;have k5:=HT3.out.free 5;have g6:=HT3.out.cell (i:=6) rfl;have k6:=HT3.out.free 6;have g7:=HT3.out.cell (i:=7) rfl;have k7:=HT3.out.free 7;have g8:=HT3.out.cell (i:=8) rfl;have k8:=HT3.out.free 8)
     have HZ:=((((((((HT3.out.set 0 (.int .i64 0)).set 1 (.string ⟨#[]⟩)).set 2 (.string ⟨#[]⟩)).set 3 (.int .i64 0)).set 4 (.string ⟨#[]⟩)).set 5 (.string ⟨#[]⟩)).set 6 (.int .i64 0)).set 7 (.string ⟨#[]⟩)).set 8 (.string ⟨#[]⟩)
     have HBZ:=but_set (but_set (but_set (but_set (but_set (but_set (but_set (but_set (but_set HB3.out (Nat.le_refl _) 0 (.int .i64 0)) (Nat.le_refl _) 1 (.string ⟨#[]⟩)) (Nat.le_refl _) 2 (.string ⟨#[]⟩)) (Nat.le_refl _) 3 (.int .i64 0)) (Nat.le_refl _) 4 (.string ⟨#[]⟩)) (Nat.le_refl _) 5 (.string ⟨#[]⟩)) (Nat.le_refl _) 6 (.int .i64 0)) (Nat.le_refl _) 7 (.string ⟨#[]⟩)) (Nat.le_refl _) 8 (.string ⟨#[]⟩)
     exact bodyPost_ret (v:=.tuple #[.agg z9.toArray,.bool false]) (tri_ret rfl rfl HZ Tryz.results125) rfl ⟨HBZ,by rw [HF.out];exact rfl⟩
    | some r=>
     obtain ⟨k,t,x,v⟩:=r
     rw [hx] at PTj
     have PT2:Hid (∀ W,But q w W→Pr W q l j→Calls Tryz.prog 173 #[rdp q] W fun e w'=>But q W w'∧e=.returned (.tuple #[tmV (k:Nat) t x,.bool true])∧∃ n,n≤l.length∧l.drop n=v∧Pr w' q l n):=PTj
     have HA2:=hid (show ANS=(rts 2 (v.dropWhile blankC)).map (fun p=>([(k,t,x)]++p.1,p.2)) by
      rw [HA.out]
      show (rts 3 (l.drop j)).map _=_
      rw [rts_some (rt_some hx)]
      simp only [Option.map_map]
      congr 1)
     clear PTj hx HA
     go_wp2_with fail
     refine (PT2.out _ HB.out HR.out).mono ?_
     rintro _ w2 ⟨hb2,rfl,n,hn,hnd,hr2⟩
     have HB2:=hid (new3_but (HB.out.trans hb2) (.int .i64 (k:Nat)) (str t) (str x))
     have HT2:=hid (new3_blk (But.blk HT.out hb2 (by omega)) (.int .i64 (k:Nat)) (str t) (str x))
     have HU1:=hid (But.blk HU.out hb2 (by omega))
     have HU2:=hid (new3_blk HU1.out (.int .i64 (k:Nat)) (str t) (str x))
     have HR2:=hid (new3_pr hr2 (.int .i64 (k:Nat)) (str t) (str x))
     have HD:=hid hnd
     have hz2:=hb2.size
     clear hb2 hr2 hnd
     have hne:w.heap.size+1≠w2.heap.size:=by omega
     have hnq:q≠w.heap.size+1:=by omega
     have HE2:=hid (new3_new w2 (.int .i64 (k:Nat)) (str t) (str x))
     go_wp2_with (show wpList _ _ _ _ _ (new3 w2 (.int .i64 (k:Nat)) (str t) (str x));obtain ⟨w3,hw3⟩:∃ w3,w3=new3 w2 (.int .i64 (k:Nat)) (str t) (str x):=⟨_,rfl⟩;rw [←hw3] at HB2 HT2 HU2 HR2 HE2 ⊢;clear hw3;have e0:=HE2.out.cell (i:=0) rfl;have g0:=HU2.out.cell (i:=0) rfl;have k0:=HU2.out.free 0;have e1:=HE2.out.cell (i:=1) rfl;have g1:=HU2.out.cell (i:=1) rfl;have k1:=HU2.out.free 1;have e2:=HE2.out.cell (i:=2) rfl;have g2:=HU2.out.cell (i:=2) rfl;have k2:=HU2.out.free 2)
     have HU3:=hid (((HU2.out.set 0 (.int .i64 (k:Nat))).set 1 (str t)).set 2 (str x))
     have HT3:=hid (Blk.other (Blk.other (Blk.other HT2.out (c:=w.heap.size+1) (by omega) 0 (.int .i64 (k:Nat))) (c:=w.heap.size+1) (by omega) 1 (str t)) (c:=w.heap.size+1) (by omega) 2 (str x))
     have HR3:=hid (show Pr _ q l n from Blk.other (Blk.other (Blk.other HR2.out hnq 0 (.int .i64 (k:Nat))) hnq 1 (str t)) hnq 2 (str x))
     have HB3:=hid (but_set (but_set (but_set HB2.out (b:=w.heap.size+1) (by omega) 0 (.int .i64 (k:Nat))) (b:=w.heap.size+1) (by omega) 1 (str t)) (b:=w.heap.size+1) (by omega) 2 (str x))
     refine (BL.out _ n HR3.out hn).mono ?_
     rintro _ w4 ⟨rfl,⟨m,hm,hmd,hr4⟩,hb4⟩
     have HB4:=hid (HB3.out.trans hb4)
     have HT4:=hid (But.blk HT3.out hb4 (by omega))
     have HU4:=hid (show Blk w4 (w.heap.size+1) (arrL [(k,t,x)]) 239 from But.blk HU3.out hb4 (by omega))
     have HR4:=hid hr4
     rw [HD.out] at hmd
     rw [←hmd] at HA2
     clear hb4 hr4 hmd
     go_wp2
     go_roundg 2
     case measure=>simp at hg;omega
     case rel=>exact ⟨[(k,t,x)],m,1,by simp,by rfl,rfl,by simp,hm,HR4,HB4,HT4,HU4,HA2⟩
  · obtain rfl:z8=1:=h8
    have PTj:=hid (fun W hB hr=>PT.out W j hB hr hj)
    cases hx:Tm.rterm (l.drop j) with
    | none=>
     rw [hx] at PTj
     have PT2:Hid (∀ W,But q w W→Pr W q l j→Calls Tryz.prog 173 #[rdp q] W fun e w'=>But q W w'∧(∃ (k:Nat) (t x:List UInt8),e=.returned (.tuple #[tmV (k:Nat) t x,.bool false]))∧∃ j,j≤l.length∧Pr w' q l j):=PTj
     have HF:=hid (show ANS=none by rw [HA.out];show (rts 2 (l.drop j)).map _=none;rw [rts_none (rt_none hx)];rfl)
     clear PTj hx HA
     go_wp2_with fail
     refine (PT2.out _ HB.out HR.out).mono ?_
     rintro _ w2 ⟨hb2,⟨k,t,x,rfl⟩,n,hn,hr2⟩
     have HB2:=hid (HB.out.trans hb2)
     have HT2:=hid (But.blk HT.out hb2 (by omega))
     have hz2:=hb2.size
     clear hb2 hr2
     have HB3:=hid (new3_but HB2.out (.int .i64 (k:Nat)) (str t) (str x))
     have HT3:=hid (new3_blk HT2.out (.int .i64 (k:Nat)) (str t) (str x))
     go_wp2_with (show wpList _ _ _ _ _ (new3 w2 (.int .i64 (k:Nat)) (str t) (str x));obtain ⟨w3,hw3⟩:∃ w3,w3=new3 w2 (.int .i64 (k:Nat)) (str t) (str x):=⟨_,rfl⟩;rw [←hw3] at HB3 HT3 ⊢;clear hw3;have g0:=HT3.out.cell (i:=0) rfl;have k0:=HT3.out.free 0;have g1:=HT3.out.cell (i:=1) rfl;have k1:=HT3.out.free 1;have g2:=HT3.out.cell (i:=2) rfl;have k2:=HT3.out.free 2;have g3:=HT3.out.cell (i:=3) rfl;have k3:=HT3.out.free 3;have g4:=HT3.out.cell (i:=4) rfl;have k4:=HT3.out.free 4;have g5:=HT3.out.cell (i:=5) rfl;have k5:=HT3.out.free 5;have g6:=HT3.out.cell (i:=6) rfl;have k6:=HT3.out.free 6;have g7:=HT3.out.cell (i:=7) rfl;have k7:=HT3.out.free 7;have g8:=HT3.out.cell (i:=8) rfl;have k8:=HT3.out.free 8)
     have HZ:=((((((((HT3.out.set 0 (.int .i64 0)).set 1 (.string ⟨#[]⟩)).set 2 (.string ⟨#[]⟩)).set 3 (.int .i64 0)).set 4 (.string ⟨#[]⟩)).set 5 (.string ⟨#[]⟩)).set 6 (.int .i64 0)).set 7 (.string ⟨#[]⟩)).set 8 (.string ⟨#[]⟩)
     have HBZ:=but_set (but_set (but_set (but_set (but_set (but_set (but_set (but_set (but_set HB3.out (Nat.le_refl _) 0 (.int .i64 0)) (Nat.le_refl _) 1 (.string ⟨#[]⟩)) (Nat.le_refl _) 2 (.string ⟨#[]⟩)) (Nat.le_refl _) 3 (.int .i64 0)) (Nat.le_refl _) 4 (.string ⟨#[]⟩)) (Nat.le_refl _) 5 (.string ⟨#[]⟩)) (Nat.le_refl _) 6 (.int .i64 0)) (Nat.le_refl _) 7 (.string ⟨#[]⟩)) (Nat.le_refl _) 8 (.string ⟨#[]⟩)
     exact bodyPost_ret (v:=.tuple #[.agg z9.toArray,.bool false]) (tri_ret rfl rfl HZ Tryz.results125) rfl ⟨HBZ,by rw [HF.out];exact rfl⟩
    | some r=>
     obtain ⟨k,t,x,v⟩:=r
     rw [hx] at PTj
     have PT2:Hid (∀ W,But q w W→Pr W q l j→Calls Tryz.prog 173 #[rdp q] W fun e w'=>But q W w'∧e=.returned (.tuple #[tmV (k:Nat) t x,.bool true])∧∃ n,n≤l.length∧l.drop n=v∧Pr w' q l n):=PTj
     have HA2:=hid (show ANS=(rts 1 (v.dropWhile blankC)).map (fun p=>([a,(k,t,x)]++p.1,p.2)) by
      rw [HA.out]
      show (rts 2 (l.drop j)).map _=_
      rw [rts_some (rt_some hx)]
      simp only [Option.map_map]
      congr 1)
     clear PTj hx HA
     go_wp2_with fail
     refine (PT2.out _ HB.out HR.out).mono ?_
     rintro _ w2 ⟨hb2,rfl,n,hn,hnd,hr2⟩
     have HB2:=hid (new3_but (HB.out.trans hb2) (.int .i64 (k:Nat)) (str t) (str x))
     have HT2:=hid (new3_blk (But.blk HT.out hb2 (by omega)) (.int .i64 (k:Nat)) (str t) (str x))
     have HU1:=hid (But.blk HU.out hb2 (by omega))
     have HU2:=hid (new3_blk HU1.out (.int .i64 (k:Nat)) (str t) (str x))
     have HR2:=hid (new3_pr hr2 (.int .i64 (k:Nat)) (str t) (str x))
     have HD:=hid hnd
     have hz2:=hb2.size
     clear hb2 hr2 hnd
     have hne:w.heap.size+1≠w2.heap.size:=by omega
     have hnq:q≠w.heap.size+1:=by omega
     have HE2:=hid (new3_new w2 (.int .i64 (k:Nat)) (str t) (str x))
     go_wp2_with (show wpList _ _ _ _ _ (new3 w2 (.int .i64 (k:Nat)) (str t) (str x));obtain ⟨w3,hw3⟩:∃ w3,w3=new3 w2 (.int .i64 (k:Nat)) (str t) (str x):=⟨_,rfl⟩;rw [←hw3] at HB2 HT2 HU2 HR2 HE2 ⊢;clear hw3;have e0:=HE2.out.cell (i:=0) rfl;have g0:=HU2.out.cell (i:=3) rfl;have k0:=HU2.out.free 3;have e1:=HE2.out.cell (i:=1) rfl;have g1:=HU2.out.cell (i:=4) rfl;have k1:=HU2.out.free 4;have e2:=HE2.out.cell (i:=2) rfl;have g2:=HU2.out.cell (i:=5) rfl;have k2:=HU2.out.free 5)
     have HU3:=hid (((HU2.out.set 3 (.int .i64 (k:Nat))).set 4 (str t)).set 5 (str x))
     have HT3:=hid (Blk.other (Blk.other (Blk.other HT2.out (c:=w.heap.size+1) (by omega) 3 (.int .i64 (k:Nat))) (c:=w.heap.size+1) (by omega) 4 (str t)) (c:=w.heap.size+1) (by omega) 5 (str x))
     have HR3:=hid (show Pr _ q l n from Blk.other (Blk.other (Blk.other HR2.out hnq 3 (.int .i64 (k:Nat))) hnq 4 (str t)) hnq 5 (str x))
     have HB3:=hid (but_set (but_set (but_set HB2.out (b:=w.heap.size+1) (by omega) 3 (.int .i64 (k:Nat))) (b:=w.heap.size+1) (by omega) 4 (str t)) (b:=w.heap.size+1) (by omega) 5 (str x))
     refine (BL.out _ n HR3.out hn).mono ?_
     rintro _ w4 ⟨rfl,⟨m,hm,hmd,hr4⟩,hb4⟩
     have HB4:=hid (HB3.out.trans hb4)
     have HT4:=hid (But.blk HT3.out hb4 (by omega))
     have HU4:=hid (show Blk w4 (w.heap.size+1) (arrL [a,(k,t,x)]) 239 from But.blk HU3.out hb4 (by omega))
     have HR4:=hid hr4
     rw [HD.out] at hmd
     rw [←hmd] at HA2
     clear hb4 hr4 hmd
     go_wp2
     go_roundg 1
     case measure=>simp at hg;omega
     case rel=>exact ⟨[a,(k,t,x)],m,2,by simp,by rfl,rfl,by simp,hm,HR4,HB4,HT4,HU4,HA2⟩
  · obtain rfl:z8=2:=h8
    have PTj:=hid (fun W hB hr=>PT.out W j hB hr hj)
    cases hx:Tm.rterm (l.drop j) with
    | none=>
     rw [hx] at PTj
     have PT2:Hid (∀ W,But q w W→Pr W q l j→Calls Tryz.prog 173 #[rdp q] W fun e w'=>But q W w'∧(∃ (k:Nat) (t x:List UInt8),e=.returned (.tuple #[tmV (k:Nat) t x,.bool false]))∧∃ j,j≤l.length∧Pr w' q l j):=PTj
     have HF:=hid (show ANS=none by rw [HA.out];show (rts 1 (l.drop j)).map _=none;rw [rts_none (rt_none hx)];rfl)
     clear PTj hx HA
     go_wp2_with fail
     refine (PT2.out _ HB.out HR.out).mono ?_
     rintro _ w2 ⟨hb2,⟨k,t,x,rfl⟩,n,hn,hr2⟩
     have HB2:=hid (HB.out.trans hb2)
     have HT2:=hid (But.blk HT.out hb2 (by omega))
     have hz2:=hb2.size
     clear hb2 hr2
     have HB3:=hid (new3_but HB2.out (.int .i64 (k:Nat)) (str t) (str x))
     have HT3:=hid (new3_blk HT2.out (.int .i64 (k:Nat)) (str t) (str x))
     go_wp2_with (show wpList _ _ _ _ _ (new3 w2 (.int .i64 (k:Nat)) (str t) (str x));obtain ⟨w3,hw3⟩:∃ w3,w3=new3 w2 (.int .i64 (k:Nat)) (str t) (str x):=⟨_,rfl⟩;rw [←hw3] at HB3 HT3 ⊢;clear hw3;have g0:=HT3.out.cell (i:=0) rfl;have k0:=HT3.out.free 0;have g1:=HT3.out.cell (i:=1) rfl;have k1:=HT3.out.free 1;have g2:=HT3.out.cell (i:=2) rfl;have k2:=HT3.out.free 2;have g3:=HT3.out.cell (i:=3) rfl;have k3:=HT3.out.free 3;have g4:=HT3.out.cell (i:=4) rfl;have k4:=HT3.out.free 4;have g5:=HT3.out.cell (i:=5) rfl;have k5:=HT3.out.free 5;have g6:=HT3.out.cell (i:=6) rfl;have k6:=HT3.out.free 6;have g7:=HT3.out.cell (i:=7) rfl;have k7:=HT3.out.free 7;have g8:=HT3.out.cell (i:=8) rfl;have k8:=HT3.out.free 8)
     have HZ:=((((((((HT3.out.set 0 (.int .i64 0)).set 1 (.string ⟨#[]⟩)).set 2 (.string ⟨#[]⟩)).set 3 (.int .i64 0)).set 4 (.string ⟨#[]⟩)).set 5 (.string ⟨#[]⟩)).set 6 (.int .i64 0)).set 7 (.string ⟨#[]⟩)).set 8 (.string ⟨#[]⟩)
     have HBZ:=but_set (but_set (but_set (but_set (but_set (but_set (but_set (but_set (but_set HB3.out (Nat.le_refl _) 0 (.int .i64 0)) (Nat.le_refl _) 1 (.string ⟨#[]⟩)) (Nat.le_refl _) 2 (.string ⟨#[]⟩)) (Nat.le_refl _) 3 (.int .i64 0)) (Nat.le_refl _) 4 (.string ⟨#[]⟩)) (Nat.le_refl _) 5 (.string ⟨#[]⟩)) (Nat.le_refl _) 6 (.int .i64 0)) (Nat.le_refl _) 7 (.string ⟨#[]⟩)) (Nat.le_refl _) 8 (.string ⟨#[]⟩)
     exact bodyPost_ret (v:=.tuple #[.agg z9.toArray,.bool false]) (tri_ret rfl rfl HZ Tryz.results125) rfl ⟨HBZ,by rw [HF.out];exact rfl⟩
    | some r=>
     obtain ⟨k,t,x,v⟩:=r
     rw [hx] at PTj
     have PT2:Hid (∀ W,But q w W→Pr W q l j→Calls Tryz.prog 173 #[rdp q] W fun e w'=>But q W w'∧e=.returned (.tuple #[tmV (k:Nat) t x,.bool true])∧∃ n,n≤l.length∧l.drop n=v∧Pr w' q l n):=PTj
     have HA2:=hid (show ANS=(rts 0 (v.dropWhile blankC)).map (fun p=>([a,b,(k,t,x)]++p.1,p.2)) by
      rw [HA.out]
      show (rts 1 (l.drop j)).map _=_
      rw [rts_some (rt_some hx)]
      simp only [Option.map_map]
      congr 1)
     clear PTj hx HA
     go_wp2_with fail
     refine (PT2.out _ HB.out HR.out).mono ?_
     rintro _ w2 ⟨hb2,rfl,n,hn,hnd,hr2⟩
     have HB2:=hid (new3_but (HB.out.trans hb2) (.int .i64 (k:Nat)) (str t) (str x))
     have HT2:=hid (new3_blk (But.blk HT.out hb2 (by omega)) (.int .i64 (k:Nat)) (str t) (str x))
     have HU1:=hid (But.blk HU.out hb2 (by omega))
     have HU2:=hid (new3_blk HU1.out (.int .i64 (k:Nat)) (str t) (str x))
     have HR2:=hid (new3_pr hr2 (.int .i64 (k:Nat)) (str t) (str x))
     have HD:=hid hnd
     have hz2:=hb2.size
     clear hb2 hr2 hnd
     have hne:w.heap.size+1≠w2.heap.size:=by omega
     have hnq:q≠w.heap.size+1:=by omega
     have HE2:=hid (new3_new w2 (.int .i64 (k:Nat)) (str t) (str x))
     go_wp2_with (show wpList _ _ _ _ _ (new3 w2 (.int .i64 (k:Nat)) (str t) (str x));obtain ⟨w3,hw3⟩:∃ w3,w3=new3 w2 (.int .i64 (k:Nat)) (str t) (str x):=⟨_,rfl⟩;rw [←hw3] at HB2 HT2 HU2 HR2 HE2 ⊢;clear hw3;have e0:=HE2.out.cell (i:=0) rfl;have g0:=HU2.out.cell (i:=6) rfl;have k0:=HU2.out.free 6;have e1:=HE2.out.cell (i:=1) rfl;have g1:=HU2.out.cell (i:=7) rfl;have k1:=HU2.out.free 7;have e2:=HE2.out.cell (i:=2) rfl;have g2:=HU2.out.cell (i:=8) rfl;have k2:=HU2.out.free 8)
     have HU3:=hid (((HU2.out.set 6 (.int .i64 (k:Nat))).set 7 (str t)).set 8 (str x))
     have HT3:=hid (Blk.other (Blk.other (Blk.other HT2.out (c:=w.heap.size+1) (by omega) 6 (.int .i64 (k:Nat))) (c:=w.heap.size+1) (by omega) 7 (str t)) (c:=w.heap.size+1) (by omega) 8 (str x))
     have HR3:=hid (show Pr _ q l n from Blk.other (Blk.other (Blk.other HR2.out hnq 6 (.int .i64 (k:Nat))) hnq 7 (str t)) hnq 8 (str x))
     have HB3:=hid (but_set (but_set (but_set HB2.out (b:=w.heap.size+1) (by omega) 6 (.int .i64 (k:Nat))) (b:=w.heap.size+1) (by omega) 7 (str t)) (b:=w.heap.size+1) (by omega) 8 (str x))
     refine (BL.out _ n HR3.out hn).mono ?_
     rintro _ w4 ⟨rfl,⟨m,hm,hmd,hr4⟩,hb4⟩
     have HB4:=hid (HB3.out.trans hb4)
     have HT4:=hid (But.blk HT3.out hb4 (by omega))
     have HU4:=hid (show Blk w4 (w.heap.size+1) (arrL [a,b,(k,t,x)]) 239 from But.blk HU3.out hb4 (by omega))
     have HR4:=hid hr4
     rw [HD.out] at hmd
     rw [←hmd] at HA2
     clear hb4 hr4 hmd
     go_wp2
     go_roundg 0
     case measure=>simp at hg;omega
     case rel=>exact ⟨[a,b,(k,t,x)],m,3,by simp,by rfl,rfl,by simp,hm,HR4,HB4,HT4,HU4,HA2⟩
  · obtain rfl:z8=3:=h8
    have HA3:=hid (show ANS=some ([a,b,c],l.drop j) by rw [HA.out];rfl)
    clear HA
    cases hd:l.drop j with
    | nil=>
     have HPN:=hid (show Tm.point []=none from rfl)
     have SN:=hid (fun W hr=>pskip_not q l [46] j W hr (by omega) hj (by decide) (by rw [hd];simp))
     go_wp2_with fail
     refine (SN.out _ HR.out).mono ?_
     rintro _ w2 ⟨rfl,_,hb2⟩
     have HB3:=hid (HB.out.trans hb2)
     have HT3:=hid (But.blk HT.out hb2 (by omega))
     clear hb2
     have g0:=HT3.out.cell (i:=0) rfl
     have g1:=HT3.out.cell (i:=1) rfl
     have g2:=HT3.out.cell (i:=2) rfl
     have g3:=HT3.out.cell (i:=3) rfl
     have g4:=HT3.out.cell (i:=4) rfl
     have g5:=HT3.out.cell (i:=5) rfl
     have g6:=HT3.out.cell (i:=6) rfl
     have g7:=HT3.out.cell (i:=7) rfl
     have g8:=HT3.out.cell (i:=8) rfl
     have k0:=HT3.out.free 0
     have k1:=HT3.out.free 1
     have k2:=HT3.out.free 2
     have k3:=HT3.out.free 3
     have k4:=HT3.out.free 4
     have k5:=HT3.out.free 5
     have k6:=HT3.out.free 6
     have k7:=HT3.out.free 7
     have k8:=HT3.out.free 8
     go_wp2
     have HZ:=((((((((HT3.out.set 0 (.int .i64 0)).set 1 (.string ⟨#[]⟩)).set 2 (.string ⟨#[]⟩)).set 3 (.int .i64 0)).set 4 (.string ⟨#[]⟩)).set 5 (.string ⟨#[]⟩)).set 6 (.int .i64 0)).set 7 (.string ⟨#[]⟩)).set 8 (.string ⟨#[]⟩)
     have HBZ:=but_set (but_set (but_set (but_set (but_set (but_set (but_set (but_set (but_set HB3.out (Nat.le_refl _) 0 (.int .i64 0)) (Nat.le_refl _) 1 (.string ⟨#[]⟩)) (Nat.le_refl _) 2 (.string ⟨#[]⟩)) (Nat.le_refl _) 3 (.int .i64 0)) (Nat.le_refl _) 4 (.string ⟨#[]⟩)) (Nat.le_refl _) 5 (.string ⟨#[]⟩)) (Nat.le_refl _) 6 (.int .i64 0)) (Nat.le_refl _) 7 (.string ⟨#[]⟩)) (Nat.le_refl _) 8 (.string ⟨#[]⟩)
     exact bodyPost_ret (v:=.tuple #[.agg z9.toArray,.bool false]) (tri_ret rfl rfl HZ Tryz.results125) rfl ⟨HBZ,by rw [show triOf ANS=none by rw [HA3.out,hd];exact (congrArg (fun o=>Option.map (fun z=>((a,b,c),z)) o) HPN.out)]⟩
    | cons d u=>
     by_cases h46:d=46
     · have HPN:=hid (show Tm.point (d::u)=some (u.dropWhile blankC) by unfold Tm.point;simp only;rw [if_pos h46])
       obtain ⟨hjl,_,hdu⟩:=drop_get l j d u hd
       have SK:=hid (fun W hr=>pskip_is q l [46] j W hr (by omega) hj (by decide) (by rw [hd,h46];rfl))
       have BLj:Hid (∀ W,Pr W q l (j+1)→Calls Tryz.prog 123 #[rdp q] W fun x w'=>x=.returned (.tuple #[])∧(∃ n,n≤l.length∧l.drop n=u.dropWhile blankC∧Pr w' q l n)∧But q W w'):=by
        intro W hr
        have:=BL.out W (j+1) hr hjl
        rw [hdu] at this
        exact this
       have HT4:=hid (show triOf ANS=some ((a,b,c),u.dropWhile blankC) by rw [HA3.out,hd];show Option.map _ (Tm.point _)=_;rw [HPN.out];rfl)
       clear hdu h46 hd
       go_wp2_with fail
       refine (SK.out _ HR.out).mono ?_
       rintro _ w2 ⟨rfl,hr2,hb2⟩
       have HB2:=hid (HB.out.trans hb2)
       have HT2:=hid (But.blk HT.out hb2 (by omega))
       have HU2:=hid (But.blk HU.out hb2 (by omega))
       have HR2:=hid hr2
       clear hr2 hb2
       go_wp2_with fail
       refine (BLj.out _ HR2.out).mono ?_
       rintro _ w3 ⟨rfl,⟨n,hn,hnd,hr3⟩,hb3⟩
       have HB3:=hid (HB2.out.trans hb3)
       have HT3:=hid (But.blk HT2.out hb3 (by omega))
       have HU3:=hid (show Blk w3 (w.heap.size+1) [.int .i64 (a.1:Nat),str a.2.1,str a.2.2,.int .i64 (b.1:Nat),str b.2.1,str b.2.2,.int .i64 (c.1:Nat),str c.2.1,str c.2.2] 239 from But.blk HU2.out hb3 (by omega))
       have HR3:=hid hr3
       have HD:=hid hnd
       clear hr3 hb3 hnd
       have e0:=HU3.out.cell (i:=0) rfl
       have e1:=HU3.out.cell (i:=1) rfl
       have e2:=HU3.out.cell (i:=2) rfl
       have e3:=HU3.out.cell (i:=3) rfl
       have e4:=HU3.out.cell (i:=4) rfl
       have e5:=HU3.out.cell (i:=5) rfl
       have e6:=HU3.out.cell (i:=6) rfl
       have e7:=HU3.out.cell (i:=7) rfl
       have e8:=HU3.out.cell (i:=8) rfl
       have g0:=HT3.out.cell (i:=0) rfl
       have g1:=HT3.out.cell (i:=1) rfl
       have g2:=HT3.out.cell (i:=2) rfl
       have g3:=HT3.out.cell (i:=3) rfl
       have g4:=HT3.out.cell (i:=4) rfl
       have g5:=HT3.out.cell (i:=5) rfl
       have g6:=HT3.out.cell (i:=6) rfl
       have g7:=HT3.out.cell (i:=7) rfl
       have g8:=HT3.out.cell (i:=8) rfl
       have k0:=HT3.out.free 0
       have k1:=HT3.out.free 1
       have k2:=HT3.out.free 2
       have k3:=HT3.out.free 3
       have k4:=HT3.out.free 4
       have k5:=HT3.out.free 5
       have k6:=HT3.out.free 6
       have k7:=HT3.out.free 7
       have k8:=HT3.out.free 8
       go_wp2
       have HZ:=(((((((((HT3.out.set 0 (.int .i64 (a.1:Nat))).set 1 (str a.2.1)).set 2 (str a.2.2)).set 3 (.int .i64 (b.1:Nat))).set 4 (str b.2.1)).set 5 (str b.2.2)).set 6 (.int .i64 (c.1:Nat))).set 7 (str c.2.1)).set 8 (str c.2.2))
       have HBZ:=(but_set (but_set (but_set (but_set (but_set (but_set (but_set (but_set (but_set HB3.out (Nat.le_refl _) 0 (.int .i64 (a.1:Nat))) (Nat.le_refl _) 1 (str a.2.1)) (Nat.le_refl _) 2 (str a.2.2)) (Nat.le_refl _) 3 (.int .i64 (b.1:Nat))) (Nat.le_refl _) 4 (str b.2.1)) (Nat.le_refl _) 5 (str b.2.2)) (Nat.le_refl _) 6 (.int .i64 (c.1:Nat))) (Nat.le_refl _) 7 (str c.2.1)) (Nat.le_refl _) 8 (str c.2.2))
       have HRZ:Pr _ q l n:=(Blk.other (Blk.other (Blk.other (Blk.other (Blk.other (Blk.other (Blk.other (Blk.other (Blk.other HR3.out (c:=w.heap.size) (by omega) 0 (.int .i64 (a.1:Nat))) (c:=w.heap.size) (by omega) 1 (str a.2.1)) (c:=w.heap.size) (by omega) 2 (str a.2.2)) (c:=w.heap.size) (by omega) 3 (.int .i64 (b.1:Nat))) (c:=w.heap.size) (by omega) 4 (str b.2.1)) (c:=w.heap.size) (by omega) 5 (str b.2.2)) (c:=w.heap.size) (by omega) 6 (.int .i64 (c.1:Nat))) (c:=w.heap.size) (by omega) 7 (str c.2.1)) (c:=w.heap.size) (by omega) 8 (str c.2.2))
       exact bodyPost_ret (v:=.tuple #[.agg (arrL [a,b,c]).toArray,.bool true]) (tri_ret rfl rfl HZ Tryz.results125) rfl ⟨HBZ,by rw [HT4.out];exact ⟨rfl,n,hn,HD.out,HRZ⟩⟩
     · have HPN:=hid (show Tm.point (d::u)=none by unfold Tm.point;simp only;rw [if_neg h46])
       have SN:=hid (fun W hr=>pskip_not q l [46] j W hr (by omega) hj (by decide) (by rw [hd];simpa using h46))
       go_wp2_with fail
       refine (SN.out _ HR.out).mono ?_
       rintro _ w2 ⟨rfl,_,hb2⟩
       have HB3:=hid (HB.out.trans hb2)
       have HT3:=hid (But.blk HT.out hb2 (by omega))
       clear hb2
       have g0:=HT3.out.cell (i:=0) rfl
       have g1:=HT3.out.cell (i:=1) rfl
       have g2:=HT3.out.cell (i:=2) rfl
       have g3:=HT3.out.cell (i:=3) rfl
       have g4:=HT3.out.cell (i:=4) rfl
       have g5:=HT3.out.cell (i:=5) rfl
       have g6:=HT3.out.cell (i:=6) rfl
       have g7:=HT3.out.cell (i:=7) rfl
       have g8:=HT3.out.cell (i:=8) rfl
       have k0:=HT3.out.free 0
       have k1:=HT3.out.free 1
       have k2:=HT3.out.free 2
       have k3:=HT3.out.free 3
       have k4:=HT3.out.free 4
       have k5:=HT3.out.free 5
       have k6:=HT3.out.free 6
       have k7:=HT3.out.free 7
       have k8:=HT3.out.free 8
       go_wp2
       have HZ:=((((((((HT3.out.set 0 (.int .i64 0)).set 1 (.string ⟨#[]⟩)).set 2 (.string ⟨#[]⟩)).set 3 (.int .i64 0)).set 4 (.string ⟨#[]⟩)).set 5 (.string ⟨#[]⟩)).set 6 (.int .i64 0)).set 7 (.string ⟨#[]⟩)).set 8 (.string ⟨#[]⟩)
       have HBZ:=but_set (but_set (but_set (but_set (but_set (but_set (but_set (but_set (but_set HB3.out (Nat.le_refl _) 0 (.int .i64 0)) (Nat.le_refl _) 1 (.string ⟨#[]⟩)) (Nat.le_refl _) 2 (.string ⟨#[]⟩)) (Nat.le_refl _) 3 (.int .i64 0)) (Nat.le_refl _) 4 (.string ⟨#[]⟩)) (Nat.le_refl _) 5 (.string ⟨#[]⟩)) (Nat.le_refl _) 6 (.int .i64 0)) (Nat.le_refl _) 7 (.string ⟨#[]⟩)) (Nat.le_refl _) 8 (.string ⟨#[]⟩)
       exact bodyPost_ret (v:=.tuple #[.agg z9.toArray,.bool false]) (tri_ret rfl rfl HZ Tryz.results125) rfl ⟨HBZ,by rw [show triOf ANS=none by rw [HA3.out,hd];exact (congrArg (fun o=>Option.map (fun z=>((a,b,c),z)) o) HPN.out)]⟩
  · simp at has
end Go.Proofs.YtjaebndajhppgaaGreatDoor
