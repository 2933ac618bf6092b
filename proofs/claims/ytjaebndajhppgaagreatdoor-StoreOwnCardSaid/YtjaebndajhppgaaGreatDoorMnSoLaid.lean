/-SoLaid-/
import Derived.Test.YtjaebndajhppgaaGreatDoorMnGRg7
import Derived.Test.YtjaebndajhppgaaGreatDoorMnSoClone
import Derived.Test.YtjaebndajhppgaaGreatDoorMnGPut
import Derived.Test.YtjaebndajhppgaaGreatDoorMnGPut2
import Derived.Test.YtjaebndajhppgaaGreatDoorMnGPr3
import Derived.Test.YtjaebndajhppgaaGreatDoorCards
import Derived.Test.YtjaebndajhppgaaGreatDoorTie
import Derived.MakeChecks
import Derived.Lay
import Derived.LaidLaws
import Derived.Lib.LaidU8T
set_option linter.unusedVariables false
set_option linter.unusedSimpArgs false
set_option maxRecDepth 100000
set_option maxHeartbeats 8000000
namespace Go.Proofs.YtjaebndajhppgaaGreatDoor
open Go.ChangeShapes Go.WideShapes Go.ChangeAt Go.RowKit Go.Sort
theorem So.file_pos (l:List TR):0<(So.file l).length:=by
 unfold So.file Bx.file Bx.head;simp
theorem So.terms_pos {l:List TR} (h:∀ p∈l,Tm.isTri p=true) (hl:0<l.length):0<(So.terms l).length:=by
 obtain ⟨p,hp⟩:=List.exists_mem_of_length_pos hl
 exact List.length_pos_of_mem (So.terms_tri h hp).1
theorem sterm_out (p:Nat) (L:List TR) (n:Int) (w:World) (h:IsStore w p L) (hn:n<1∨((So.terms L).length:Int)<n) :
  Calls Tryz.prog 33 #[.pointer (some ⟨p,0,none⟩),.int .i64 n] w fun e w'=>e=.returned (.tuple #[tmV 0 [] [],.bool false])∧Below w.heap.size w w':=by
 obtain ⟨vt,ve,r,h1,h2,h3,h4⟩:=h
 obtain ⟨ae,ce,rfl,_,_,_⟩:=h3.open
 obtain ⟨m,hm⟩:∃ m,m=(So.terms L).length:=⟨_,rfl⟩
 rw [←hm] at h1 hn
 have HP:=hid (h1.alloc (.cells #[.int .i64 0,str [],str []] 61))
 have c1:=HP.out.cell (i:=1) rfl
 clear h1 h2 h3 h4 hm
 by_cases hn1:n<1
 · clear hn
   go_enter Tryz.func33,Tryz.ntmps33
   go_wp2
   refine bodyPost_ret (term_ret2 rfl rfl (Blk.new w [.int .i64 0,str [],str []] 61) rfl) rfl ?_
   exact ⟨rfl,(Below.refl _ _).alloc (Nat.le_refl _) _⟩
 · have hn2:(m:Int)<n:=by omega
   have hn3:¬ n<1:=hn1
   clear hn hn1
   go_enter Tryz.func33,Tryz.ntmps33
   go_wp2
   refine bodyPost_ret (term_ret2 rfl rfl (Blk.new w [.int .i64 0,str [],str []] 61) rfl) rfl ?_
   exact ⟨rfl,(Below.refl _ _).alloc (Nat.le_refl _) _⟩
theorem sterm_in (p:Nat) (L:List TR) (i:Nat) (t:T3) (w:World) (h:IsStore w p L) (hi:i<(So.terms L).length) (ht:(So.terms L)[i]=t) (hn:L.length≤1000) :
  Calls Tryz.prog 33 #[.pointer (some ⟨p,0,none⟩),.int .i64 ((i:Int)+1)] w fun e w'=>e=.returned (.tuple #[tmv t,.bool true])∧Below w.heap.size w w':=by
 obtain ⟨vt,ve,r,h1,h2,h3,h4⟩:=h
 obtain ⟨ae,ce,rfl,_,_,_⟩:=h3.open
 have hb:=(Below.refl w.heap.size w).alloc (Nat.le_refl _) (.cells #[.int .i64 0,str [],str []] 61)
 obtain ⟨be,off,rfl,hrow⟩:=(h3.keep hb).get hi
 have c0:=hrow i hi 0 (by omega)
 have d1:=hrow i hi 1 (by omega)
 have c2:=hrow i hi 2 (by omega)
 rw [ht] at c0 d1 c2
 obtain ⟨m,hm⟩:∃ m,m=(So.terms L).length:=⟨_,rfl⟩
 have hm3:m≤3000:=by rw [hm];have:=So.terms_len L;omega
 rw [←hm] at h1 hi
 obtain ⟨k,tt,xx⟩:=t
 simp only [tm3,List.getElem?_cons_zero,List.getElem?_cons_succ,Nat.add_zero] at c0 d1 c2
 have HP:=hid (h1.alloc (.cells #[.int .i64 0,str [],str []] 61))
 have c1:=HP.out.cell (i:=1) rfl
 have hiz:(i:Int)<(m:Int):=by omega
 have hi1:¬ (i:Int)+1<1:=by omega
 have hi2:¬ (m:Int)<(i:Int)+1:=by omega
 have HB:=hid hb
 clear h1 h2 h3 h4 hm ht hrow hb
 go_enter Tryz.func33,Tryz.ntmps33
 go_wp2
 refine bodyPost_ret (term_ret2 rfl rfl (Blk.new w [.int .i64 (k:Nat),str tt,str xx] 61) rfl) rfl ?_
 exact ⟨rfl,(Below.refl _ _).alloc (Nat.le_refl _) _⟩
theorem isRef_keep {W W':World} {p:Nat} {L:List TR} (h:IsRef W p L) (hb:Below W.heap.size W W'):IsRef W' p L:=by
 obtain ⟨vt,ve,vs,vi,h1,h2,h3,h4,h5⟩:=h
 exact ⟨vt,ve,vs,vi,h1.keep hb,h2.keep hb,h3.keep hb,h4.keep hb,h5.keep hb⟩
theorem conv_own11 {w':World} {base:Nat} {v:Value} {l:List Nat} (ho:w'.ownsRow base 5 1 v l.length (l.map u8v)):∃ a c,v=.slice a l.length c∧Hid (∀ W,Below w'.heap.size w' W→(convert 32 9 (.slice a l.length c)).run Tryz.prog W=.ok (.string (strOf l)) W):=by
 obtain ⟨a,c,rfl,hy⟩:=own_open ho rfl
 exact ⟨a,c,rfl,hid (fun W hW=>conv_row Tryz.underlying32 Tryz.underlying5 Tryz.underlying9 W _ _ (hy.out.keep hW))⟩
theorem alike_any (L:List TR) (hl:∀ t∈L,Tm.isTri t=true) (hn:L.length≤100) (p q:Nat) (w:World) (h:IsStore w p L) (hr:IsRef w q L) :
  Calls Tryz.prog 15 #[.pointer (some ⟨p,0,none⟩),.pointer (some ⟨q,0,none⟩)] w fun e w'=>e=.returned (.bool true)∧Below w.heap.size w w':=by
 have HS:=hid h
 have HR:=hid hr
 obtain ⟨vt,ve,vs,vi,hQ,hT,hE,hX,hI⟩:=hr
 obtain ⟨at1,ct1,rfl,_,_,_⟩:=hT.open
 obtain ⟨ae1,ce1,rfl,_,_,_⟩:=hE.open
 obtain ⟨ai1,ci1,rfl,_,_,_⟩:=hI.open
 rw [List.length_map] at hQ hT
 rw [So.ids_len] at hQ hI
 have HL:=hid hl
 have hn1000:L.length≤1000:=by omega
 have HTM:=hid (So.terms_is hl)
 have HTS:=hid (So.terms_srt hl)
 have hml:=So.terms_len L
 obtain ⟨n,hn0⟩:∃ n,n=L.length:=⟨_,rfl⟩
 obtain ⟨m,hm0⟩:∃ m,m=(So.terms L).length:=⟨_,rfl⟩
 rw [←hn0,←hm0] at hQ
 rw [←hn0] at hT hI
 rw [←hm0] at hE
 have hm3:m≤3000:=by omega
 have HQ:=hid hQ
 have HT:=hid hT
 have HE:=hid hE
 have HI:=hid hI
 have HM:=hid hm0
 have HN:=hid hn0
 have SL:=hid (fun W (hB:Below w.heap.size w W)=>slen_any p L W (HS.out.keep hB))
 rw [←hn0] at SL
 have ST:=hid (show ∀ W,Below w.heap.size w W→Calls Tryz.prog 35 #[.pointer (some ⟨p,0,none⟩)] W fun e W'=>∃ a c,e=.returned (.slice a n c)∧Hid (TrisAt W' (.slice a n c) (L.map ofT))∧Below W.heap.size W W' from fun W hB=>by
  refine (stri_any p L hn1000 W (HS.out.keep hB)).mono ?_
  rintro e W' ⟨v,rfl,h1,_,h2⟩
  obtain ⟨a,c,rfl,_⟩:=h1.open
  rw [List.length_map,←HN.out] at h1 ⊢
  exact ⟨a,c,rfl,hid h1,h2⟩)
 have S5:=hid (show ∀ W a c,Below w.heap.size w W→Hid (TrisAt W (.slice a n c) (L.map ofT))→Calls Tryz.prog 41 #[.slice a n c,.slice at1 n ct1] W fun e W'=>e=.returned (.bool true)∧Below W.heap.size W W' from fun W a c hB h1=>by
  refine (rsame_any (L.map ofT) W _ _ h1.out (HT.out.keep hB) (by rw [List.length_map];omega)).mono ?_
  rintro e W' ⟨rfl,k,rfl⟩
  exact ⟨rfl,below_drawn (Below.refl _ _) k⟩)
 have EX:=hid (fun W (hB:Below w.heap.size w W)=>sexp_any p L W (HS.out.keep hB) HL.out (by omega))
 have RP:=hid (fun W (hB:Below w.heap.size w W)=>rprint_any L HL.out (by omega) W (.slice at1 n ct1) (HT.out.keep hB))
 obtain ⟨T,hT0⟩:∃ T,T=Tm.printL L:=⟨_,rfl⟩
 rw [←hT0] at EX RP
 have TE:=hid (show ∀ W,Below w.heap.size w W→Calls Tryz.prog 30 #[.pointer (some ⟨p,0,none⟩)] W fun e W'=>∃ a c,e=.returned (.slice a m c)∧Hid (TermsAt W' (.slice a m c) (So.terms L))∧Below W.heap.size W W' from fun W hB=>by
  refine (sterms_any p L hn1000 W (HS.out.keep hB)).mono ?_
  rintro e W' ⟨v,rfl,h1,_,h2⟩
  obtain ⟨a,c,rfl,_⟩:=h1.open
  rw [←HM.out] at h1 ⊢
  exact ⟨a,c,rfl,hid h1,h2⟩)
 have TI:=hid (fun i t (hi:i<(So.terms L).length) (ht:(So.terms L)[i]=t) W (hB:Below w.heap.size w W)=>sterm_in p L i t W (HS.out.keep hB) hi ht hn1000)
 have TO1:=hid (fun W (hB:Below w.heap.size w W)=>sterm_out p L 0 W (HS.out.keep hB) (by omega))
 have TO2:=hid (fun W (hB:Below w.heap.size w W)=>sterm_out p L ((m:Int)+1) W (HS.out.keep hB) (by omega))
 clear h hQ hT hE hX hI hl hT0 hn0 hm0 hml
 have d0:=HQ.out.cell (i:=0) rfl
 have hd0:Below w.heap.size w w.drew:=below_drawn (Below.refl _ _) 1
 go_enter Tryz.func15,Tryz.ntmps15
 go_upto_region 1 with fail
 go_region_held3 (fun w'=>w'.cell? ⟨q,0,none⟩=some (.slice at1 n ct1))
  (first
    | exact below_keep hb9 d0
    | go_keep)
  (first
    | (go_at_call 34;refine (SL.out _ hd0).mono ?_;rintro e w1 ⟨rfl,rfl⟩)
    | (go_at_call 35;refine (ST.out _ hd0).mono ?_;rintro e w2 ⟨a2,c2,rfl,hT2,hb⟩;have hb9:=below_then hd0 hb;have hd2:=hb9)
    | (go_at_call 41;refine (S5.out _ _ _ hd2 hT2).mono ?_;rintro e w3 ⟨rfl,hb⟩;have hb9:=below_then hd2 hb;have hd3:=hb9)
    | (go_at_call 24;refine (EX.out _ hd3).mono ?_;rintro e w4 ⟨rfl,hb⟩;have hb9:=below_then hd3 hb;have hd4:=hb9)
    | (go_at_call 21;refine (RP.out _ hd4).mono ?_;rintro e w5 ⟨rfl,hb⟩;have hb9:=below_then hd4 hb;have hd5:=hb9))
 clear d0
 go_wp2_with fail
 refine (TE.out _ hd5).mono ?_
 rintro e w6 ⟨a6,c6,rfl,HT6,hb⟩
 have HB6:=hid (below_then hd5 hb)
 have HQ6:=hid (HQ.out.keep HB6.out)
 have HE6:=hid (HE.out.keep HB6.out)
 clear hb hb9 hd5 hd0 hT2 SL ST S5 EX RP
 have d1:=HQ6.out.cell (i:=1) rfl
 go_upto_region 6 with fail
 go_upto_region 7 with fail
 go_loopg [6] m (fun gk s6 wr=>∃ i:Nat,s6=.int .i64 i∧i≤m∧m-i≤gk∧Hid (Below w6.heap.size w6 wr))
 case atStart=>exact ⟨0,rfl,Nat.zero_le _,Nat.le_refl _,hid (Below.refl _ _)⟩
 case round=>
  obtain ⟨i,rfl,him,hg,HB⟩:=hrel
  have HBr:=hid (below_then HB6.out HB.out)
  clear d1
  by_cases hlt:i<m
  · have hltz:(i:Int)<(m:Int):=by omega
    have hiE:i<(So.terms L).length:=by rw [←HM.out];exact hlt
    obtain ⟨t,ht⟩:∃ t,t=(So.terms L)[i]:=⟨_,rfl⟩
    have TIi:=hid (fun W (hB:Below w.heap.size w W)=>TI.out i t hiE ht.symm W hB)
    obtain ⟨b6,o6,rfl,hrow6⟩:=HT6.out.get hiE
    obtain ⟨b7,o7,rfl,hrow7⟩:=HE6.out.get hiE
    have x0:=hrow6 i hiE 0 (by omega)
    have x1:=hrow6 i hiE 1 (by omega)
    have x2:=hrow6 i hiE 2 (by omega)
    have y0:=hrow7 i hiE 0 (by omega)
    have y1:=hrow7 i hiE 1 (by omega)
    have y2:=hrow7 i hiE 2 (by omega)
    have z1:=HQ6.out.cell (i:=1) rfl
    rw [←ht] at x0 x1 x2 y0 y1 y2
    have hIS:=HTM.out t (by rw [ht];exact List.getElem_mem _)
    have hvl:=vt_len ⟨t,hIS⟩
    have IDF:=hid (idOf_found HTM.out HTS.out (t.1:Nat) t.2.1 t.2.2 hiE (by rw [←ht];exact ⟨rfl,rfl,rfl⟩)).2.2
    have SI:=hid (show ∀ W,Below w.heap.size w W→Calls Tryz.prog 32 #[.pointer (some ⟨p,0,none⟩),.agg #[.int .i64 (t.1:Nat),str t.2.1,str t.2.2]] W fun e W'=>e=.returned (.int .i64 ((i:Int)+1))∧Below W.heap.size W W' from fun W hB=>by
     have h:=sid_any p L HL.out hn1000 (t.1:Nat) t.2.1 t.2.2 W (HS.out.keep hB) hvl.1 hvl.2.1
     rw [IDF.out] at h
     exact h)
    clear hvl hIS ht hiE hrow6 hrow7
    obtain ⟨k,tt,xx⟩:=t
    simp only [tm3,List.getElem?_cons_zero,List.getElem?_cons_succ,Nat.add_zero] at x0 x1 x2 y0 y1 y2 SI
    unfold tmv tmV at TIi
    have NE:∀ W,(binOp .neq 61 (.agg #[.int .i64 (k:Nat),str tt,str xx]) (.agg #[.int .i64 (k:Nat),str tt,str xx])).run Tryz.prog W=.ok (.bool false) W:=fun W=>by
     have h:=ne_tmI (k,tt,xx) (k:Nat) tt xx W
     rw [decide_eq_true (⟨rfl,rfl,rfl⟩:_∧_∧_)] at h
     exact h
    have hw1:IntKind.i64.wrap ((i:Int)+1)=(i:Int)+1:=IntWalk.i64_in _ ⟨by omega,by omega⟩
    have HX:=hid (And.intro x0 (And.intro x1 (And.intro x2 (And.intro y0 (And.intro y1 (And.intro y2 z1))))))
    clear x0 x1 x2 y0 y1 y2 z1
    go_upto_region 9 with fail
    go_wp2_with fail
    refine (TIi.out _ HBr.out).mono ?_
    rintro e w7 ⟨rfl,hb7⟩
    have HB7:=hid (below_then HB.out hb7)
    clear hb7
    obtain ⟨w8,hw8⟩:∃ w8,w8=w7.alloc (.cells #[.int .i64 (k:Nat),str tt,str xx] 61):=⟨_,rfl⟩
    have HU8:=hid (show Blk w8 w7.heap.size [.int .i64 (k:Nat),str tt,str xx] 61 by rw [hw8];exact Blk.new' rfl rfl)
    have HB8:=hid (show Below w6.heap.size w6 w8 by rw [hw8];exact HB7.out.alloc HB7.out.size _)
    have HW8:=hid hw8
    clear hw8
    go_upto_region 10 with fail
    rw [←HW8.out]
    obtain ⟨bt,hbt⟩:∃ bt,bt=w7.heap.size:=⟨_,rfl⟩
    rw [←hbt] at HU8 ⊢
    clear hbt HW8
    have u0:=HU8.out.cell (i:=0) rfl
    have u1:=HU8.out.cell (i:=1) rfl
    have u2:=HU8.out.cell (i:=2) rfl
    have x0:=below_keep HB8.out HX.out.1
    have x1:=below_keep HB8.out HX.out.2.1
    have x2:=below_keep HB8.out HX.out.2.2.1
    have y0:=below_keep HB8.out HX.out.2.2.2.1
    have y1:=below_keep HB8.out HX.out.2.2.2.2.1
    have y2:=below_keep HB8.out HX.out.2.2.2.2.2.1
    have z1:=below_keep HB8.out HX.out.2.2.2.2.2.2
    have hd8:Below w.heap.size w w8.drew:=below_drawn (below_then HB6.out HB8.out) 1
    go_region_held3 (fun w'=>w'.cell? ⟨bt,0,none⟩=some (.int .i64 (k:Nat))∧w'.cell? ⟨bt,1,none⟩=some (str tt)∧w'.cell? ⟨bt,2,none⟩=some (str xx)∧w'.cell? ⟨b6,o6+i*3,none⟩=some (.int .i64 (k:Nat))∧w'.cell? ⟨b6,o6+i*3+1,none⟩=some (str tt)∧w'.cell? ⟨b6,o6+i*3+2,none⟩=some (str xx)∧w'.cell? ⟨b7,o7+i*3,none⟩=some (.int .i64 (k:Nat))∧w'.cell? ⟨b7,o7+i*3+1,none⟩=some (str tt)∧w'.cell? ⟨b7,o7+i*3+2,none⟩=some (str xx)∧w'.cell? ⟨q,1,none⟩=some (.slice (some ⟨b7,o7,none⟩) m ce1))
     (first
       | exact ⟨below_keep hb9 u0,below_keep hb9 u1,below_keep hb9 u2,below_keep hb9 x0,below_keep hb9 x1,below_keep hb9 x2,below_keep hb9 y0,below_keep hb9 y1,below_keep hb9 y2,below_keep hb9 z1⟩
       | go_keep)
     (first
       | (go_at_call 32;refine (SI.out _ hd8).mono ?_;rintro e w9 ⟨rfl,hb⟩;have hb9:=below_then (below_drawn (Below.refl w8.heap.size w8) 1) hb;have HB9:=hid (below_then HB8.out hb9))
       | fail)
    go_wp2
    go_roundg (m-(i+1))
    case measure=>omega
    case rel=>exact ⟨i+1,by go_num,by omega,by omega,HB9⟩
  · obtain rfl:i=m:=by omega
    have hltz:¬ (i:Int)<(i:Int):=by omega
    clear hg him hlt TI HT6 HE6
    go_upto_region 12 with fail
    go_wp2_with fail
    refine (TO1.out _ HBr.out).mono ?_
    rintro e w10 ⟨rfl,hb⟩
    have HB10:=hid ((below_then HBr.out hb).alloc (below_then HBr.out hb).size (.cells #[.int .i64 0,str [],str []] 61))
    clear hb
    unfold tmV
    go_wp2_with fail
    refine (TO2.out _ HB10.out).mono ?_
    rintro e w11 ⟨rfl,hb⟩
    have HB11:=hid ((below_then HB10.out hb).alloc (below_then HB10.out hb).size (.cells #[.int .i64 0,str [],str []] 61))
    clear hb
    unfold tmV
    go_wp2_with fail
    refine (sring_any p L _ (HS.out.keep HB11.out)).mono ?_
    rintro e w12 ⟨⟨r,rfl,hr⟩,hw12⟩
    have HB12:=hid (show Below w.heap.size w w12 by rw [hw12];exact HB11.out)
    rw [←hw12] at hr
    have HRG:=hid hr
    have HQ12:=hid (HQ.out.keep HB12.out)
    clear hw12 hr
    have AL:=hid (fun W (hB:Below w12.heap.size w12 W)=>rall_any r (So.ids L) (0,0,0) W (HRG.out.keep hB) (fun c hc=>by rcases Rg.c3 hc with rfl | rfl | rfl <;> decide))
    rw [all_same] at AL
    have S8:=hid (fun W v1 (h1:IdsAt W v1 (So.ids L)) (hB:Below w.heap.size w W)=>by
     have:=rgrsame_any v1 (.slice ai1 n ci1) (So.ids L) (So.ids L) W h1 (HI.out.keep hB) (by rw [So.ids_len];omega) (by rw [So.ids_len];omega)
     rw [decide_eq_true rfl] at this
     exact this)
    have EN:=hid (show ∀ W,Below w.heap.size w W→Calls Tryz.prog 19 #[.pointer (some ⟨p,0,none⟩)] W fun e W'=>∃ a c,e=.returned (.slice a (So.file L).length c)∧Hid (∀ W'',Below W'.heap.size W' W''→(convert 32 9 (.slice a (So.file L).length c)).run Tryz.prog W''=.ok (.string (strOf (So.file L))) W'')∧Below W.heap.size W W' from fun W hB=>by
     refine (enc_any L HL.out hn p W (HS.out.keep hB)).mono ?_
     rintro e W' ⟨v,rfl,ho,hb⟩
     obtain ⟨a,c,rfl,hc⟩:=conv_own11 ho
     exact ⟨a,c,rfl,hc,hb⟩)
    have RE:=hid (show ∀ W,Below w.heap.size w W→Calls Tryz.prog 45 #[.pointer (some ⟨q,0,none⟩)] W fun e W'=>∃ a c,e=.returned (.slice a (So.file L).length c)∧Hid (∀ W'',Below W'.heap.size W' W''→(convert 32 9 (.slice a (So.file L).length c)).run Tryz.prog W''=.ok (.string (strOf (So.file L))) W'')∧Below W.heap.size W W' from fun W hB=>by
     refine (renc_any L HL.out hn q W (isRef_keep HR.out hB)).mono ?_
     rintro e W' ⟨v,rfl,ho,hb⟩
     obtain ⟨a,c,rfl,hc⟩:=conv_own11 ho
     exact ⟨a,c,rfl,hc,hb⟩)
    obtain ⟨F,hF⟩:∃ F,F=strOf (So.file L):=⟨_,rfl⟩
    obtain ⟨N,hN⟩:∃ N,N=(So.file L).length:=⟨_,rfl⟩
    rw [←hF,←hN] at EN RE
    clear hF hN TO1 TO2 TE HB10 HB11
    have d3:=HQ12.out.cell (i:=3) rfl
    have hd12:Below w12.heap.size w12 w12.drew:=below_drawn (Below.refl _ _) 1
    unfold tv at AL
    go_upto_region 15 with fail
    refine wp_region_held_drew (S:=fun w'=>w'.cell? ⟨q,3,none⟩=some (.slice ai1 n ci1)) (by kernel_rfl) d3 (fun hHeld=>?_)
    refine wpAnyH_take (i:=0) (v:=?_) rfl (by kernel_rfl) (by kernel_rfl) (by kernel_rfl) (fun _ _ _ h=>h) (Or.inl ⟨by kernel_rfl,?_⟩) hHeld ?_
    rotate_left 1
    · intro w9 hw9;go_simp;try with_reducible rfl
    simp only [Act.put,sa1,sa2,sa3]
    refine wpAnyH_take (i:=1) (v:=?_) rfl (by kernel_rfl) (by kernel_rfl) (by kernel_rfl) (fun _ _ _ h=>h) (Or.inl ⟨by kernel_rfl,?_⟩) hHeld ?_
    rotate_left 1
    · intro w9 hw9;go_simp;try with_reducible rfl
    simp only [Act.put,sa1,sa2,sa3]
    refine wpAnyH_take (i:=2) (v:=?_) rfl (by kernel_rfl) (by kernel_rfl) (by kernel_rfl) (fun _ _ _ h=>h) (Or.inl ⟨by kernel_rfl,?_⟩) hHeld ?_
    rotate_left 1
    · intro w9 hw9;go_simp;try with_reducible rfl
    simp only [Act.put,sa1,sa2,sa3]
    refine wpAnyH_take (i:=3) (v:=?_) rfl (by kernel_rfl) (by kernel_rfl) (by kernel_rfl) (fun _ _ _ h=>h) (Or.inl ⟨by kernel_rfl,?_⟩) hHeld ?_
    rotate_left 1
    · intro w9 hw9;go_simp;try with_reducible rfl
    simp only [Act.put,sa1,sa2,sa3]
    refine wpAnyH_take (i:=4) (v:=?_) rfl (by kernel_rfl) (by kernel_rfl) (by kernel_rfl) (fun _ _ _ h=>h) (Or.inl ⟨by kernel_rfl,?_⟩) hHeld ?_
    rotate_left 1
    · intro w9 hw9;go_simp;try with_reducible rfl
    simp only [Act.put,sa1,sa2,sa3]
    refine wpAnyH_take (i:=5) (v:=?_) rfl (by kernel_rfl) (by kernel_rfl) (by kernel_rfl) (fun _ _ _ h=>h) (Or.inl ⟨by kernel_rfl,?_⟩) hHeld ?_
    rotate_left 1
    · intro w9 hw9;go_simp;try with_reducible rfl
    simp only [Act.put,sa1,sa2,sa3]
    refine wpAnyH_take (i:=6) (v:=?_) rfl (by kernel_rfl) (by kernel_rfl) (by kernel_rfl) (fun _ _ _ h=>h) (Or.inl ⟨by kernel_rfl,?_⟩) hHeld ?_
    rotate_left 1
    · intro w9 hw9;go_simp;try with_reducible rfl
    simp only [Act.put,sa1,sa2,sa3]
    refine wpAnyH_take (i:=7) (v:=?_) rfl (by kernel_rfl) (by kernel_rfl) (by kernel_rfl) (fun _ _ _ h=>h) (Or.inl ⟨by kernel_rfl,?_⟩) hHeld ?_
    rotate_left 1
    · intro w9 hw9;go_simp;try with_reducible rfl
    simp only [Act.put,sa1,sa2,sa3]
    refine wpAnyH_take (i:=8) (v:=?_) rfl (by kernel_rfl) (by kernel_rfl) (by kernel_rfl) (fun _ _ _ h=>h) (Or.inl ⟨by kernel_rfl,?_⟩) hHeld ?_
    rotate_left 1
    · intro w9 hw9;go_simp;try with_reducible rfl
    simp only [Act.put,sa1,sa2,sa3]
    refine wpAnyH_take (i:=9) (v:=?_) rfl (by kernel_rfl) (by kernel_rfl) (by kernel_rfl) (fun _ _ _ h=>h) (Or.inl ⟨by kernel_rfl,?_⟩) hHeld ?_
    rotate_left 1
    · intro w9 hw9;go_simp;try with_reducible rfl
    simp only [Act.put,sa1,sa2,sa3]
    refine wpAnyH_take (i:=10) (v:=?_) rfl (by kernel_rfl) (by kernel_rfl) (by kernel_rfl) (fun _ _ _ h=>h) (Or.inl ⟨by kernel_rfl,?_⟩) hHeld ?_
    rotate_left 1
    · intro w9 hw9;go_simp;try with_reducible rfl
    simp only [Act.put,sa1,sa2,sa3]
    refine wpAnyH_take (i:=11) (v:=?_) rfl (by kernel_rfl) (by kernel_rfl) (by kernel_rfl) (fun _ _ _ h=>h) (Or.inl ⟨by kernel_rfl,?_⟩) hHeld ?_
    rotate_left 1
    · intro w9 hw9;go_simp;try with_reducible rfl
    simp only [Act.put,sa1,sa2,sa3]
    refine wpAnyH_take (i:=12) (v:=?_) rfl (by kernel_rfl) (by kernel_rfl) (by kernel_rfl) (fun _ _ _ h=>h) (Or.inl ⟨by kernel_rfl,?_⟩) hHeld ?_
    rotate_left 1
    · intro w9 hw9;go_simp;try with_reducible rfl
    simp only [Act.put,sa1,sa2,sa3]
    refine wpAnyH_take (i:=14) (v:=?_) rfl (by kernel_rfl) (by kernel_rfl) (by kernel_rfl) (fun _ _ _ h=>h) (Or.inl ⟨by kernel_rfl,?_⟩) hHeld ?_
    rotate_left 1
    · intro w9 hw9;go_simp;try with_reducible rfl
    simp only [Act.put,sa1,sa2,sa3]
    refine wpAnyH_take (i:=15) (v:=?_) rfl (by kernel_rfl) (by kernel_rfl) (by kernel_rfl) (fun _ _ _ h=>h) (Or.inl ⟨by kernel_rfl,?_⟩) hHeld ?_
    rotate_left 1
    · intro w9 hw9;go_simp;try with_reducible rfl
    simp only [Act.put,sa1,sa2,sa3]
    refine wpAnyH_take (i:=16) (v:=?_) rfl (by kernel_rfl) (by kernel_rfl) (by kernel_rfl) (fun _ _ _ h=>h) (Or.inl ⟨by kernel_rfl,?_⟩) hHeld ?_
    rotate_left 1
    · intro w9 hw9;go_simp;try with_reducible rfl
    simp only [Act.put,sa1,sa2,sa3]
    refine wpAnyH_take (i:=17) (v:=?_) rfl (by kernel_rfl) (by kernel_rfl) (by kernel_rfl) (fun _ _ _ h=>h) (Or.inl ⟨by kernel_rfl,?_⟩) hHeld ?_
    rotate_left 1
    · intro w9 hw9;go_simp;try with_reducible rfl
    simp only [Act.put,sa1,sa2,sa3]
    refine wpAnyH_ready (rs:=[13]) (by kernel_rfl) (by simp) ?_
    refine AllReadyH.cons rfl (fun K hK=>?_) ?_
    · go_simp
      go_at_call 39
      refine (AL.out _ hd12).mono ?_
      rintro e w13 ⟨v13,rfl,hI13,hb13⟩
      have hd13:=below_then hd12 hb13
      have hq13:=hI13.at
      have he13:=below_then HB12.out hd13
      refine hK.out _ _ (below_keep hd13 d3) (fun hHeld=>?_)
      clear hK K
      (try simp only [Act.put,sa1,sa2,sa3])
      refine wpAnyH_ready (rs:=[18]) (by kernel_rfl) (by simp) ?_
      refine AllReadyH.cons rfl (fun K hK=>?_) ?_
      · go_simp
        go_at_call 38
        refine (S8.out _ _ hq13 he13).mono ?_
        rintro e w14 ⟨rfl,hb14⟩
        have hd14:=below_then hd13 hb14
        have he14:=below_then HB12.out hd14
        refine hK.out _ _ (below_keep hd14 d3) (fun hHeld=>?_)
        clear hK K
        (try simp only [Act.put,sa1,sa2,sa3])
        refine wpAnyH_take (i:=19) (v:=?_) rfl (by kernel_rfl) (by kernel_rfl) (by kernel_rfl) (fun _ _ _ h=>h) (Or.inl ⟨by kernel_rfl,?_⟩) hHeld ?_
        rotate_left 1
        · intro w9 hw9;go_simp;try with_reducible rfl
        simp only [Act.put,sa1,sa2,sa3]
        refine wpAnyH_take (i:=20) (v:=?_) rfl (by kernel_rfl) (by kernel_rfl) (by kernel_rfl) (fun _ _ _ h=>h) (Or.inl ⟨by kernel_rfl,?_⟩) hHeld ?_
        rotate_left 1
        · intro w9 hw9;go_simp;try with_reducible rfl
        simp only [Act.put,sa1,sa2,sa3]
        refine wpAnyH_take (i:=21) (v:=?_) rfl (by kernel_rfl) (by kernel_rfl) (by kernel_rfl) (fun _ _ _ h=>h) (Or.inl ⟨by kernel_rfl,?_⟩) hHeld ?_
        rotate_left 1
        · intro w9 hw9;go_simp;try with_reducible rfl
        simp only [Act.put,sa1,sa2,sa3]
        refine wpAnyH_take (i:=24) (v:=?_) rfl (by kernel_rfl) (by kernel_rfl) (by kernel_rfl) (fun _ _ _ h=>h) (Or.inl ⟨by kernel_rfl,?_⟩) hHeld ?_
        rotate_left 1
        · intro w9 hw9;go_simp;try with_reducible rfl
        simp only [Act.put,sa1,sa2,sa3]
        refine wpAnyH_ready (rs:=[22]) (by kernel_rfl) (by simp) ?_
        refine AllReadyH.cons rfl (fun K hK=>?_) ?_
        · go_simp
          go_at_call 19
          refine (EN.out _ he14).mono ?_
          rintro e w15 ⟨a15,c15,rfl,k15,hb15⟩
          have hd15:=below_then hd14 hb15
          have he15:=below_then HB12.out hd15
          have q15:=k15.out w15 (Below.refl _ _)
          refine hK.out _ _ (below_keep hd15 d3) (fun hHeld=>?_)
          clear hK K
          (try simp only [Act.put,sa1,sa2,sa3])
          refine wpAnyH_ready (rs:=[23,25]) (by kernel_rfl) (by simp) ?_
          refine AllReadyH.cons rfl (fun K hK=>?_) ?_
          · go_simp
            refine hK.out _ _ (hHeld) (fun hHeld=>?_)
            clear hK K
            (try simp only [Act.put,sa1,sa2,sa3])
            refine wpAnyH_ready (rs:=[25]) (by kernel_rfl) (by simp) ?_
            refine AllReadyH.cons rfl (fun K hK=>?_) ?_
            · go_simp
              go_at_call 45
              refine (RE.out _ he15).mono ?_
              rintro e w16 ⟨a16,c16,rfl,k16,hb16⟩
              have hd16:=below_then hd15 hb16
              have he16:=below_then HB12.out hd16
              have q16:=k16.out w16 (Below.refl _ _)
              have q17:=k15.out w16 hb16
              refine hK.out _ _ (below_keep hd16 d3) (fun hHeld=>?_)
              clear hK K
              (try simp only [Act.put,sa1,sa2,sa3])
              refine wpAnyH_ready (rs:=[26]) (by kernel_rfl) (by simp) ?_
              refine AllReadyH.cons rfl (fun K hK=>?_) ?_
              · go_simp
                refine hK.out _ _ (hHeld) (fun hHeld=>?_)
                clear hK K
                (try simp only [Act.put,sa1,sa2,sa3])
                refine wpAnyH_take (i:=27) (oi:=({ dst:=some 146,op:=Op.binOp BinOp.eql 9 (Operand.tmp 142) (Operand.tmp 145) 9,type:=4,pos := "law.go:53",after:=#[{ on:=23,ground:=Ground.data },{ on:=26,ground:=Ground.data },{ on:=20,ground:=Ground.guard }],guard:=some (20,true) }:Oper)) (v:=?_) rfl (by kernel_rfl) (by kernel_rfl) (by kernel_rfl) (fun _ _ _ h=>h) (Or.inl ⟨by kernel_rfl,?_⟩) hHeld ?_
                rotate_left 1
                · intro w9 hw9;go_simp;try with_reducible rfl
                simp only [Act.put,sa1,sa2,sa3]
                refine wpAnyH_take (i:=28) (oi:=({ dst:=some 147,op:=Op.pick (Operand.tmp 139) (Operand.tmp 146) (Operand.const (Value.bool false)),type:=4,pos := "law.go:53",after:=#[{ on:=20,ground:=Ground.data },{ on:=27,ground:=Ground.data }],guard:=none }:Oper)) (v:=?_) rfl (by kernel_rfl) (by kernel_rfl) (by kernel_rfl) (fun _ _ _ h=>h) (Or.inl ⟨by kernel_rfl,?_⟩) hHeld ?_
                rotate_left 1
                · intro w9 hw9;go_simp;try with_reducible rfl
                simp only [Act.put,sa1,sa2,sa3]
                refine wpAnyH_take (i:=29) (oi:=({ dst:=some 4,op:=Op.assign (Operand.tmp 147),type:=4,pos := "law.go:53",after:=#[{ on:=28,ground:=Ground.data },{ on:=25,ground:=Ground.chain },{ on:=0,ground:=Ground.phase },{ on:=1,ground:=Ground.phase },{ on:=2,ground:=Ground.phase },{ on:=3,ground:=Ground.phase },{ on:=4,ground:=Ground.phase },{ on:=5,ground:=Ground.phase },{ on:=6,ground:=Ground.phase },{ on:=7,ground:=Ground.phase },{ on:=8,ground:=Ground.phase },{ on:=9,ground:=Ground.phase },{ on:=10,ground:=Ground.phase },{ on:=11,ground:=Ground.phase },{ on:=12,ground:=Ground.phase },{ on:=13,ground:=Ground.phase },{ on:=14,ground:=Ground.phase },{ on:=15,ground:=Ground.phase },{ on:=16,ground:=Ground.phase },{ on:=17,ground:=Ground.phase },{ on:=18,ground:=Ground.phase },{ on:=19,ground:=Ground.phase },{ on:=20,ground:=Ground.phase },{ on:=21,ground:=Ground.phase },{ on:=22,ground:=Ground.phase },{ on:=23,ground:=Ground.phase },{ on:=24,ground:=Ground.phase },{ on:=25,ground:=Ground.phase },{ on:=26,ground:=Ground.phase },{ on:=27,ground:=Ground.phase },{ on:=28,ground:=Ground.phase }],guard:=none }:Oper)) (v:=?_) rfl (by kernel_rfl) (by kernel_rfl) (by kernel_rfl) (fun _ _ _ h=>h) (Or.inl ⟨by kernel_rfl,?_⟩) hHeld ?_
                rotate_left 1
                · intro w9 hw9;go_simp;try with_reducible rfl
                simp only [Act.put,sa1,sa2,sa3]
                refine wpAnyH_done (by kernel_rfl) ?_ _
                go_wp2
                go_ret
                exact ⟨rfl,he16⟩
              exact AllReadyH.nil
            exact AllReadyH.nil
          refine AllReadyH.cons rfl (fun K hK=>?_) ?_
          · go_simp
            go_at_call 45
            refine (RE.out _ he15).mono ?_
            rintro e w16 ⟨a16,c16,rfl,k16,hb16⟩
            have hd16:=below_then hd15 hb16
            have he16:=below_then HB12.out hd16
            have q16:=k16.out w16 (Below.refl _ _)
            have q17:=k15.out w16 hb16
            refine hK.out _ _ (below_keep hd16 d3) (fun hHeld=>?_)
            clear hK K
            (try simp only [Act.put,sa1,sa2,sa3])
            refine wpAnyH_ready (rs:=[23,26]) (by kernel_rfl) (by simp) ?_
            refine AllReadyH.cons rfl (fun K hK=>?_) ?_
            · go_simp
              refine hK.out _ _ (hHeld) (fun hHeld=>?_)
              clear hK K
              (try simp only [Act.put,sa1,sa2,sa3])
              refine wpAnyH_ready (rs:=[26]) (by kernel_rfl) (by simp) ?_
              refine AllReadyH.cons rfl (fun K hK=>?_) ?_
              · go_simp
                refine hK.out _ _ (hHeld) (fun hHeld=>?_)
                clear hK K
                (try simp only [Act.put,sa1,sa2,sa3])
                refine wpAnyH_take (i:=27) (oi:=({ dst:=some 146,op:=Op.binOp BinOp.eql 9 (Operand.tmp 142) (Operand.tmp 145) 9,type:=4,pos := "law.go:53",after:=#[{ on:=23,ground:=Ground.data },{ on:=26,ground:=Ground.data },{ on:=20,ground:=Ground.guard }],guard:=some (20,true) }:Oper)) (v:=?_) rfl (by kernel_rfl) (by kernel_rfl) (by kernel_rfl) (fun _ _ _ h=>h) (Or.inl ⟨by kernel_rfl,?_⟩) hHeld ?_
                rotate_left 1
                · intro w9 hw9;go_simp;try with_reducible rfl
                simp only [Act.put,sa1,sa2,sa3]
                refine wpAnyH_take (i:=28) (oi:=({ dst:=some 147,op:=Op.pick (Operand.tmp 139) (Operand.tmp 146) (Operand.const (Value.bool false)),type:=4,pos := "law.go:53",after:=#[{ on:=20,ground:=Ground.data },{ on:=27,ground:=Ground.data }],guard:=none }:Oper)) (v:=?_) rfl (by kernel_rfl) (by kernel_rfl) (by kernel_rfl) (fun _ _ _ h=>h) (Or.inl ⟨by kernel_rfl,?_⟩) hHeld ?_
                rotate_left 1
                · intro w9 hw9;go_simp;try with_reducible rfl
                simp only [Act.put,sa1,sa2,sa3]
                refine wpAnyH_take (i:=29) (oi:=({ dst:=some 4,op:=Op.assign (Operand.tmp 147),type:=4,pos := "law.go:53",after:=#[{ on:=28,ground:=Ground.data },{ on:=25,ground:=Ground.chain },{ on:=0,ground:=Ground.phase },{ on:=1,ground:=Ground.phase },{ on:=2,ground:=Ground.phase },{ on:=3,ground:=Ground.phase },{ on:=4,ground:=Ground.phase },{ on:=5,ground:=Ground.phase },{ on:=6,ground:=Ground.phase },{ on:=7,ground:=Ground.phase },{ on:=8,ground:=Ground.phase },{ on:=9,ground:=Ground.phase },{ on:=10,ground:=Ground.phase },{ on:=11,ground:=Ground.phase },{ on:=12,ground:=Ground.phase },{ on:=13,ground:=Ground.phase },{ on:=14,ground:=Ground.phase },{ on:=15,ground:=Ground.phase },{ on:=16,ground:=Ground.phase },{ on:=17,ground:=Ground.phase },{ on:=18,ground:=Ground.phase },{ on:=19,ground:=Ground.phase },{ on:=20,ground:=Ground.phase },{ on:=21,ground:=Ground.phase },{ on:=22,ground:=Ground.phase },{ on:=23,ground:=Ground.phase },{ on:=24,ground:=Ground.phase },{ on:=25,ground:=Ground.phase },{ on:=26,ground:=Ground.phase },{ on:=27,ground:=Ground.phase },{ on:=28,ground:=Ground.phase }],guard:=none }:Oper)) (v:=?_) rfl (by kernel_rfl) (by kernel_rfl) (by kernel_rfl) (fun _ _ _ h=>h) (Or.inl ⟨by kernel_rfl,?_⟩) hHeld ?_
                rotate_left 1
                · intro w9 hw9;go_simp;try with_reducible rfl
                simp only [Act.put,sa1,sa2,sa3]
                refine wpAnyH_done (by kernel_rfl) ?_ _
                go_wp2
                go_ret
                exact ⟨rfl,he16⟩
              exact AllReadyH.nil
            refine AllReadyH.cons rfl (fun K hK=>?_) ?_
            · go_simp
              refine hK.out _ _ (hHeld) (fun hHeld=>?_)
              clear hK K
              (try simp only [Act.put,sa1,sa2,sa3])
              refine wpAnyH_ready (rs:=[23]) (by kernel_rfl) (by simp) ?_
              refine AllReadyH.cons rfl (fun K hK=>?_) ?_
              · go_simp
                refine hK.out _ _ (hHeld) (fun hHeld=>?_)
                clear hK K
                (try simp only [Act.put,sa1,sa2,sa3])
                refine wpAnyH_take (i:=27) (oi:=({ dst:=some 146,op:=Op.binOp BinOp.eql 9 (Operand.tmp 142) (Operand.tmp 145) 9,type:=4,pos := "law.go:53",after:=#[{ on:=23,ground:=Ground.data },{ on:=26,ground:=Ground.data },{ on:=20,ground:=Ground.guard }],guard:=some (20,true) }:Oper)) (v:=?_) rfl (by kernel_rfl) (by kernel_rfl) (by kernel_rfl) (fun _ _ _ h=>h) (Or.inl ⟨by kernel_rfl,?_⟩) hHeld ?_
                rotate_left 1
                · intro w9 hw9;go_simp;try with_reducible rfl
                simp only [Act.put,sa1,sa2,sa3]
                refine wpAnyH_take (i:=28) (oi:=({ dst:=some 147,op:=Op.pick (Operand.tmp 139) (Operand.tmp 146) (Operand.const (Value.bool false)),type:=4,pos := "law.go:53",after:=#[{ on:=20,ground:=Ground.data },{ on:=27,ground:=Ground.data }],guard:=none }:Oper)) (v:=?_) rfl (by kernel_rfl) (by kernel_rfl) (by kernel_rfl) (fun _ _ _ h=>h) (Or.inl ⟨by kernel_rfl,?_⟩) hHeld ?_
                rotate_left 1
                · intro w9 hw9;go_simp;try with_reducible rfl
                simp only [Act.put,sa1,sa2,sa3]
                refine wpAnyH_take (i:=29) (oi:=({ dst:=some 4,op:=Op.assign (Operand.tmp 147),type:=4,pos := "law.go:53",after:=#[{ on:=28,ground:=Ground.data },{ on:=25,ground:=Ground.chain },{ on:=0,ground:=Ground.phase },{ on:=1,ground:=Ground.phase },{ on:=2,ground:=Ground.phase },{ on:=3,ground:=Ground.phase },{ on:=4,ground:=Ground.phase },{ on:=5,ground:=Ground.phase },{ on:=6,ground:=Ground.phase },{ on:=7,ground:=Ground.phase },{ on:=8,ground:=Ground.phase },{ on:=9,ground:=Ground.phase },{ on:=10,ground:=Ground.phase },{ on:=11,ground:=Ground.phase },{ on:=12,ground:=Ground.phase },{ on:=13,ground:=Ground.phase },{ on:=14,ground:=Ground.phase },{ on:=15,ground:=Ground.phase },{ on:=16,ground:=Ground.phase },{ on:=17,ground:=Ground.phase },{ on:=18,ground:=Ground.phase },{ on:=19,ground:=Ground.phase },{ on:=20,ground:=Ground.phase },{ on:=21,ground:=Ground.phase },{ on:=22,ground:=Ground.phase },{ on:=23,ground:=Ground.phase },{ on:=24,ground:=Ground.phase },{ on:=25,ground:=Ground.phase },{ on:=26,ground:=Ground.phase },{ on:=27,ground:=Ground.phase },{ on:=28,ground:=Ground.phase }],guard:=none }:Oper)) (v:=?_) rfl (by kernel_rfl) (by kernel_rfl) (by kernel_rfl) (fun _ _ _ h=>h) (Or.inl ⟨by kernel_rfl,?_⟩) hHeld ?_
                rotate_left 1
                · intro w9 hw9;go_simp;try with_reducible rfl
                simp only [Act.put,sa1,sa2,sa3]
                refine wpAnyH_done (by kernel_rfl) ?_ _
                go_wp2
                go_ret
                exact ⟨rfl,he16⟩
              exact AllReadyH.nil
            exact AllReadyH.nil
          exact AllReadyH.nil
        exact AllReadyH.nil
      exact AllReadyH.nil
    exact AllReadyH.nil
end Go.Proofs.YtjaebndajhppgaaGreatDoor
namespace Go.Proofs.YtjaebndajhppgaaGreatDoor
open Go.ChangeShapes Go.WideShapes Go.ChangeAt Go.RowKit
theorem first_eq:Rows.laid_unicode_utf8_first=Lib.firstData:=by kernel_rfl
theorem acc_eq:(Rows.laid_unicode_utf8_acceptRanges:DataW Unit)=Lib.acceptData:=by kernel_rfl
theorem err_under:∃ ms,Tryz.prog.underlying 176=some (.interface ms):=⟨_,Tryz.underlying176⟩
theorem vars5_of {W:World} (h:laidMetH Tryz.prog Rows.storeOfNothingRow.laid W) (hs:W.ShapedOpen Tryz.prog):Vars W∧ErrAt W:=by
 have h1:laidMet Tryz.prog Rows.storeOfNothingRow.laid W:=by rw [Go.MakeChecks.laidMetH_plain Tryz.prog _ _ (by kernel_rfl)] at h;exact h
 have h3:=Lib.laidMet.reads h1 (n := "unicode/utf8.first") (.tail _ (.tail _ (.tail _ (.tail _ (.tail _ (.tail _ (.tail _ (.head _))))))))
 have h4:=Lib.laidMet.reads h1 (n := "unicode/utf8.acceptRanges") (.tail _ (.tail _ (.tail _ (.head _))))
 have h5:=Lib.laidMet.reads h1 (n := "strconv.ErrSyntax") (.tail _ (.tail _ (.tail _ (.tail _ (.tail _ (.head _))))))
 rw [first_eq] at h3
 rw [acc_eq] at h4
 refine ⟨⟨utf8Tabs_of_readsT (U8Types.of196 Tryz.lays196) ⟨by kernel_rfl,by kernel_rfl,by kernel_rfl,by kernel_rfl,by kernel_rfl,by kernel_rfl,by kernel_rfl⟩ h3 h4,?_⟩,?_⟩
 · exact Go.Proofs.cell_of_shapedOpen_int (zero:=#[.int .i64 0]) (t:=3) hs (of_decide_eq_true (by kernel_rfl)) (by kernel_rfl) rfl (by kernel_rfl) (by kernel_rfl) Tryz.underlying3
 · obtain ⟨g,t,cs,fuel,p,hg,ht,hv,htr⟩:=h5
   have hg2:Tryz.prog.globalNamed "strconv.ErrSyntax" = some 4:=by kernel_rfl
   obtain rfl:g=4:=Option.some.inj (hg.symm.trans hg2)
   have ht2:(Tryz.prog.globals[4]?).map (·.type)=some 176:=by kernel_rfl
   obtain rfl:t=176:=Option.some.inj (ht.symm.trans ht2)
   obtain ⟨ms,hms⟩:=err_under
   obtain ⟨_,u,v,hcs,_,_⟩:=iface_of_trod hms htr
   refine ⟨.iface u v,?_,.inr ⟨u,v,rfl⟩⟩
   have:=World.var?_cell hg hv 0
   rw [this,←Array.getElem?_toList,hcs];rfl
noncomputable def laidWorld (os:Os):World:=World.laidAll Tryz.prog os Rows.storeOfNothingRow.laid
theorem witness_shaped_row {H:Type} {enc:TypeId×Value→H} {C:Checked} {os:Os} {f:FuncId} {fn:Func} {s:OpenSpec} {conds:List PathCond} {apart:Bool} {laid:List (String×DataW Unit)} (modest:Bool) (w0:World) (args:Array Value) (hos:w0.os=os)
  (hsh:(w0.forCall (fun _ _=>0) ⟨#[],args,[]⟩).Shaped C.prog)
  (hok:Input.okWideB C.prog (w0.forCall (fun _ _=>0) ⟨#[],args,[]⟩) f ⟨#[],args,[]⟩=true)
  (hrow:s.preRow enc C.prog fn conds apart laid (w0.forCall (fun _ _=>0) ⟨#[],args,[]⟩).memory args) :
  ∃ (w:World) (tape:Tape) (i:Input),w.os=os∧(w.forCall tape i).Shaped C.prog∧i.vars=[]∧Input.okWide C.prog (w.forCall tape i) .any w.heap.size f i ∧
   s.preRow enc C.prog fn conds apart laid (w.forCall tape i).memory i.args∧({ modest:=modest }:Assume).holds C.prog (lone (Frame.enter C.prog f i.args .normal) [] (w.forCall tape i)):=by
 refine ⟨w0,fun _ _=>0,⟨#[],args,[]⟩,hos,hsh,(Input.okWide_of_okWideB (base:=0) hok).1,(Input.okWide_of_okWideB hok).2,hrow,?_⟩
 simp only [Assume.holds]
 exact ⟨by simp,by simp,fun _=>Modest.zero,by simp,by simp⟩
theorem laid_met (os:Os) (args:Array Value):laidMet Tryz.prog Rows.storeOfNothingRow.laid ((laidWorld os).forCall (fun _ _=>0) ⟨#[],args,[]⟩).memory:=laidMet_laidAll _ (by kernel_rfl) (by kernel_rfl)
end Go.Proofs.YtjaebndajhppgaaGreatDoor
