/-GPr1-/
import Derived.Test.YtjaebndajhppgaaGreatDoorMnSoComp
import Derived.Test.YtjaebndajhppgaaGreatDoorMnGSort
import Derived.Test.YtjaebndajhppgaaGreatDoorMnGRg5
import Derived.Test.YtjaebndajhppgaaGreatDoorMnGLn1
import Derived.Shelf.Abstract
set_option linter.unusedVariables false
set_option linter.unusedSimpArgs false
set_option maxRecDepth 100000
set_option maxHeartbeats 8000000
namespace Go.Proofs.YtjaebndajhppgaaGreatDoor
open Go.ChangeShapes Go.WideShapes Go.ChangeAt Go.RowKit Go.Sort
def zz3:List Value:=[.int .i64 0,str [],str []]
theorem info_term:∃ i,Tryz.prog.info? 61=some i∧i.zero=some (.agg zz3.toArray)∧i.size=3∧i.bytes=40:=by
 have h:(Tryz.prog.info? 61).map (fun i=>(i.zero,i.size,i.bytes))=some (some (.agg zz3.toArray),3,40):=by kernel_rfl
 obtain ⟨i,hi,h⟩:=Option.map_eq_some_iff.1 h
 simp only [Prod.mk.injEq] at h
 exact ⟨i,hi,h.1,h.2.1,h.2.2⟩
def rowT (E:List T3):List Value:=E.flatMap tm3
theorem rowT_app (E F:List T3):rowT (E++F)=rowT E++rowT F:=by simp [rowT]
theorem rowT_len:∀ (E:List T3),(rowT E).length=E.length*3
 | []=>rfl
 | a::E=>by
  have:=rowT_len E
  show (tm3 a++rowT E).length=_
  rw [List.length_append,this,List.length_cons];show 3+_=_;omega
theorem rowT_get:∀ (E:List T3) (i c:Nat) (hi:i<E.length),c<3→(rowT E)[i*3+c]?=(tm3 E[i])[c]?
 | [],i,c,hi,_=>by simp at hi
 | p::E,0,c,hi,hc=>by
  show (tm3 p++rowT E)[0*3+c]?=_
  rw [List.getElem?_append_left (by show _<3;omega),Nat.zero_mul,Nat.zero_add];rfl
 | p::E,i+1,c,hi,hc=>by
  show (tm3 p++rowT E)[(i+1)*3+c]?=_
  rw [List.getElem?_append_right (by show 3≤_;omega),show (i+1)*3+c-(tm3 p).length=i*3+c by show _-3=_;omega]
  exact rowT_get E i c (by simpa using hi) hc
theorem flat_step {L:List TR} {i:Nat} (hi:i<L.length):So.flat (L.take (i+1))=So.flat (L.take i)++[L[i].1,L[i].2.1,L[i].2.2]:=by
 rw [List.take_succ_eq_append_getElem hi,So.flat_snoc]
def asV (E:List T3) (h:∀ a∈E,So.isT a):Array VT:=(E.pmap (fun a ha=>(⟨a,ha⟩:VT)) h).toArray
theorem asV_size (E:List T3) (h:∀ a∈E,So.isT a):(asV E h).size=E.length:=by simp [asV]
theorem asV_val (E:List T3) (h:∀ a∈E,So.isT a):(asV E h).toList.map (·.1)=E:=by
 unfold asV
 simp only [List.map_pmap]
 rw [List.pmap_eq_map];exact List.map_id _
theorem asV_get (E:List T3) (h:∀ a∈E,So.isT a) {i:Nat} (hi:i<E.length):((asV E h)[i]!).1=E[i]:=by
 rw [getElem!_pos _ i (by rw [asV_size];exact hi)]
 unfold asV
 simp
theorem holdsV_own {W:World} {base g cap:Nat} {E:List T3} (hE:∀ a∈E,So.isT a) (h:W.ownsRow base 61 3 (.slice (some ⟨g,0,none⟩) E.length cap) E.length (rowT E)):HoldsK encV 3 W g 0 (asV E hE):=by
 intro j hj
 have hj':j<E.length*3:=by simpa [asV_size] using hj
 rw [Nat.zero_add]
 refine ⟨?_,h.frozenAt j⟩
 have h2:=get_flatK encV 3 (asV E hE) j (by simpa [asV_size] using hj')
 have hi:j / 3<E.length:=by omega
 have hg:=rowT_get E (j / 3) (j % 3) hi (Nat.mod_lt _ (by decide))
 rw [show j / 3*3+j % 3=j by omega,tm3_get _ _ (Nat.mod_lt _ (by decide))] at hg
 rw [h.cellAt j hj',hg]
 have e:(encV (asV E hE)[j / 3]!)=tm3 E[j / 3]:=by unfold encV;rw [asV_get E hE hi]
 rw [e] at h2
 exact congrArg some h2.symm
theorem holdsV_row {W:World} {g:Nat} {d:Array VT} (h:HoldsK encV 3 W g 0 d):RowT W g (d.toList.map (·.1)):=by
 intro i hi c hc
 have hi':i<d.size:=by simpa using hi
 have:=HoldsK.cell h (i:=i) (c:=c) hi' hc
 rw [Nat.zero_add] at this
 refine ⟨?_,this.2⟩
 rw [this.1,tm3_get _ c hc]
 unfold encV
 rw [getElem!_pos d i hi']
 simp
theorem sort_noneT (a:Option Addr) (cap:Nat) (w:World):Calls Tryz.prog 127 #[.slice a 0 cap,.func (.func 128) #[] #[]] w fun e w'=>e=.returned (.tuple #[])∧w'=w:=by
 have h:=AnyF.slices_SortFunc_none Tryz.sortTerms a cap (.func (.func 128) #[] #[]) w
 change Calls Tryz.prog 127 _ _ _ at h
 exact h
theorem comp_none (a:Option Addr) (cap:Nat) (w:World):Calls Tryz.prog 129 #[.slice a 0 cap] w fun e w'=>e=.returned (.slice a 0 cap)∧w'=w:=by
 go_enter Tryz.func129,Tryz.ntmps129
 go_wp2
 go_ret
 exact ⟨rfl,rfl⟩
theorem news_blk (W:World) (A:List Value) (t:TypeId):∀ ad,some (⟨W.heap.size,0,none⟩:Addr)=some ad→∀ j u,A[j]?=some u→(W.alloc (.cells A.toArray t)).cell? (ad.add j)=some u:=by
 intro ad had j u hu
 cases had
 rw [add_cell rfl,Nat.zero_add,cell_new,←Array.getElem?_toList]
 exact hu
theorem rowT_one (E:List T3):∀ u∈rowT E,u.oneCell'=true:=by
 intro u hu
 obtain ⟨a,_,h⟩:=List.mem_flatMap.1 hu
 exact tm3_one a u h
theorem termsOf_any (L:List TR) (hl:∀ t∈L,Tm.isTri t=true) (hn:L.length≤1000) (w:World) (v:Value) (hv:TrisAt w v (L.map ofT)) :
  Calls Tryz.prog 85 #[v] w fun e w'=>∃ v',e=.returned v'∧TermsAt w' v' (So.terms L)∧Below w.heap.size w w':=by
 obtain ⟨a,cap,rfl,hc1,hc2,hc3⟩:=hv.open
 have HV:=hid hv
 have HL:=hid hl
 rw [List.length_map] at HV ⊢
 obtain ⟨n,hn0⟩:∃ n,n=L.length:=⟨_,rfl⟩
 rw [←hn0] at HV hn ⊢
 have HN:=hid hn0
 have HB0:=hid (Below.refl w.heap.size w)
 clear hv hl hc1 hc2 hc3 hn0
 go_enter Tryz.func85,Tryz.ntmps85
 go_wp2
 go_loopg [3,8] n (fun gk s3 s8 wr=>∃ (i:Nat),s8=.int .i64 i∧i≤n∧n-i≤gk∧Hid (Below w.heap.size w wr)∧Hid (wr.ownsRow w.heap.size 61 3 s3 (3*i) (rowT (So.flat (L.take i)))))
 case atStart=>exact ⟨0,rfl,Nat.zero_le _,Nat.le_refl _,HB0,World.ownsRow_nil _ _ _ _⟩
 case round=>
  obtain ⟨i,rfl,hin,hg,HB,HR⟩:=hrel
  by_cases hlt:i<n
  · have hltz:(i:Int)<(n:Int):=by omega
    have hiL:i<L.length:=by rw [←HN.out];exact hlt
    have HVr:=hid (HV.out.keep HB.out)
    obtain ⟨bl,off,rfl,hrow⟩:=HVr.out.get (i:=i) (by rw [List.length_map];exact hiL)
    have HRW:=hid (hrow i (by rw [List.length_map];exact hiL))
    rw [List.getElem_map] at HRW
    have HST:=hid (flat_step hiL)
    obtain ⟨t,ht⟩:∃ t,t=L[i]:=⟨_,rfl⟩
    rw [←ht] at HRW HST
    obtain ⟨⟨n1,t1,x1⟩,⟨n2,t2,x2⟩,n3,t3,x3⟩:=t
    clear ht hrow
    have c0:=HRW.out 0 (by omega)
    have c1:=HRW.out 1 (by omega)
    have c2:=HRW.out 2 (by omega)
    have c3:=HRW.out 3 (by omega)
    have c4:=HRW.out 4 (by omega)
    have c5:=HRW.out 5 (by omega)
    have c6:=HRW.out 6 (by omega)
    have c7:=HRW.out 7 (by omega)
    have c8:=HRW.out 8 (by omega)
    simp only [ofT,Tri.cells,List.getElem?_cons_zero,List.getElem?_cons_succ,Nat.add_zero] at c0 c1 c2 c3 c4 c5 c6 c7 c8
    have HB4:=hid (show Below w.heap.size w (new9 wr n1 t1 x1 n2 t2 x2 n3 t3 x3) from HB.out.alloc HB.out.size _)
    have HR4:=hid (show (new9 wr n1 t1 x1 n2 t2 x2 n3 t3 x3).ownsRow w.heap.size 61 3 u3 (3*i) (rowT (So.flat (L.take i))) from HR.out.alloc _)
    have HU4:=hid (new9_new wr n1 t1 x1 n2 t2 x2 n3 t3 x3)
    have hz4:=HB4.out.size
    go_upto_region 5 with fail
    show Code.wp _ _ _ _ (new9 wr n1 t1 x1 n2 t2 x2 n3 t3 x3)
    obtain ⟨w4,hw4⟩:∃ w4,w4=new9 wr n1 t1 x1 n2 t2 x2 n3 t3 x3:=⟨_,rfl⟩
    rw [←hw4] at HB4 HR4 HU4 hz4 ⊢
    clear hw4 c0 c1 c2 c3 c4 c5 c6 c7 c8
    have c0:=HU4.out.cell (i:=0) rfl
    have c1:=HU4.out.cell (i:=1) rfl
    have c2:=HU4.out.cell (i:=2) rfl
    have c3:=HU4.out.cell (i:=3) rfl
    have c4:=HU4.out.cell (i:=4) rfl
    have c5:=HU4.out.cell (i:=5) rfl
    have c6:=HU4.out.cell (i:=6) rfl
    have c7:=HU4.out.cell (i:=7) rfl
    have c8:=HU4.out.cell (i:=8) rfl
    obtain ⟨iS,hi0,hzS,hszS,hbyS⟩:=info_term
    go_wp2_with (at_builtin;refine wpList_append_blk rfl (.tmp 12) (.tmp 19) 62 rfl w.heap.size 61 iS _ 3 40 Tryz.underlying62 hi0 hzS hszS hbyS rfl (by decide) _ _ _ rfl (HR4.out.alloc _) (some ⟨w4.heap.size,0,none⟩) 3 3 (rowT [(n1,t1,x1),(n2,t2,x2),(n3,t3,x3)]) rfl (fun h=>by cases h) rfl (news_blk w4 (rowT [(n1,t1,x1),(n2,t2,x2),(n3,t3,x3)]) 61) (rowT_one _) (by unfold maxLen;omega) (by omega) (by simp;omega) ?_)
    intro v8 w8 g1 g2 g3
    have HB8:=hid ((HB4.out.alloc hz4 _).grown g2 (by simp;omega) (fun k hk=>(HR4.out.lt k hk).1))
    have HR8:=hid (show w8.ownsRow w.heap.size 61 3 v8 (3*(i+1)) (rowT (So.flat (L.take (i+1)))) by rw [HST.out,rowT_app];exact g1)
    clear g1 g2 g3
    go_wp2
    go_roundg (n-(i+1))
    case measure=>omega
    case rel=>exact ⟨i+1,by go_num,by omega,by omega,HB8,HR8⟩
  · obtain rfl:i=n:=by omega
    have HE:=hid (So.flat_is HL.out)
    have HR2:=hid (show wr.ownsRow w.heap.size 61 3 u3 (So.flat L).length (rowT (So.flat L)) by
     have h:=HR.out
     rw [HN.out,List.take_length] at h
     rw [So.flat_len];exact h)
    have HLN:=hid (show (So.flat L).length≤3000 by rw [So.flat_len,←HN.out];omega)
    clear HR
    by_cases h0:i=0
    · have hL0:L=[]:=List.eq_nil_of_length_eq_zero (by rw [←HN.out];exact h0)
      subst hL0
      obtain ⟨ac,cc,rfl,hcc⟩:∃ ac cc,u3=.slice ac 0 cc∧cc≤maxLen∧(ac=none→cc=0):=by
       rcases HR2.out.2 with ⟨e,_⟩ | ⟨g,cp,cur,e,_,_,_,hm,_⟩
       · exact ⟨none,0,e,by unfold maxLen;omega,fun _=>rfl⟩
       · exact ⟨_,cp,e,hm,fun h=>by cases h⟩
      have HCC:=hid hcc
      clear hcc h0
      go_wp2_with (go_at_call 127;refine (sort_noneT ac cc wr).mono ?_;rintro e w2 ⟨rfl,rfl⟩)
      go_wp2_with (go_at_call 129;refine (comp_none ac cc _).mono ?_;rintro e w3 ⟨rfl,rfl⟩)
      go_ret
      exact ⟨_,rfl,⟨ac,cc,rfl,Nat.zero_le _,HCC.out.1,HCC.out.2,Or.inl rfl⟩,HB.out⟩
    · obtain ⟨g,cc,rfl,hg,hgl,hcc,hcm⟩:∃ g cc,u3=.slice (some ⟨g,0,none⟩) (So.flat L).length cc∧w.heap.size≤g∧g<wr.heap.size∧(So.flat L).length≤cc∧cc≤maxLen:=by
       have hlt2:=HR2.out.lt
       rcases HR2.out.2 with ⟨_,e⟩ | ⟨g,cp,cur,e,hb,_,h1,hm,_⟩
       · exfalso;have:=So.flat_len L;have:=HN.out;omega
       · subst e
         exact ⟨g,cp,rfl,hb,(hlt2 g rfl).2,h1,hm⟩
      have HH:=hid (holdsV_own HE.out HR2.out)
      have hsz:=asV_size (So.flat L) HE.out
      have hpv:=asV_val (So.flat L) HE.out
      obtain ⟨d,hd⟩:∃ d,d=asV (So.flat L) HE.out:=⟨_,rfl⟩
      rw [←hd] at HH hsz hpv
      clear hd
      have SO:=hid (sort_terms g cc d wr (by have:=HLN.out;omega) HH.out hgl)
      rw [hsz] at SO
      have HS1:=hid (And.intro hsz hpv)
      have HG:=hid (And.intro hg (And.intro hgl (And.intro hcc hcm)))
      obtain ⟨m,hm⟩:∃ m,m=(So.flat L).length:=⟨_,rfl⟩
      rw [←hm] at SO ⊢
      have HM:=hid hm
      clear hsz hpv hg hgl hcc hcm hm h0
      go_wp2_with (go_at_call 127;refine SO.out.mono ?_;rintro e w2 ⟨rfl,d2,e1,e2,e3,e4,e5⟩)
      have HR3:=hid (holdsV_row e4)
      have HP:=hid (show (d2.toList.map (·.1)).Perm (So.flat L) from by
       have:=e2.map (·.1)
       rw [HS1.out.2] at this;exact this)
      have HE3:=hid e3
      have HO:=hid e5
      have hln:=HP.out.length_eq
      obtain ⟨E,hE⟩:∃ E,E=d2.toList.map (·.1):=⟨_,rfl⟩
      rw [←hE] at HR3 HP HE3 hln
      clear hE e1 e2 e3 e4 e5
      have CO:=hid (compact_any g cc E w2 HR3.out (by rw [hln];exact HG.out.2.2.1) HG.out.2.2.2 (by rw [hln];have:=HLN.out;omega))
      rw [hln,←HM.out] at CO
      have hall:=So.cp_all So.ordT HE3.out HE.out HP.out
      rw [hln,←HM.out] at hall
      rw [hall] at CO
      clear hall hln
      go_wp2_with (go_at_call 129;refine CO.out.mono ?_;rintro e w3 ⟨rfl,k1,k2⟩)
      have HT:=hid k1
      have HO2:=hid k2
      clear k1 k2
      go_ret
      refine ⟨_,rfl,HT.out,?_⟩
      have hb1:=Off.below HB.out HO.out HG.out.1 HB.out.size
      exact Off.below hb1 HO2.out HG.out.1 hb1.size
end Go.Proofs.YtjaebndajhppgaaGreatDoor
namespace Go.Proofs.YtjaebndajhppgaaGreatDoor
open Go.ChangeShapes Go.WideShapes Go.ChangeAt Go.RowKit Go.Sort
def IsStore (W:World) (p:Nat) (L:List TR):Prop:=∃ (vt ve:Value) (r:Nat),Blk W p [vt,ve,.pointer (some ⟨r,0,none⟩)] 110∧TrisAt W vt (L.map ofT)∧TermsAt W ve (So.terms L)∧IsRing W r (So.ids L)
theorem IsStore.keep {W W':World} {p:Nat} {L:List TR} (h:IsStore W p L) (hb:Below W.heap.size W W'):IsStore W' p L:=by
 obtain ⟨vt,ve,r,h1,h2,h3,h4⟩:=h
 exact ⟨vt,ve,r,h1.keep hb,h2.keep hb,h3.keep hb,h4.keep hb⟩
theorem map_off {w:World} {k:TypeId} {b n:Nat} {D:DataW Unit} {R:Value→Option (DataW Unit×List MemPlace)} (h:w.ownsMap Tryz.prog k R b n D) {p:Nat} {A:List Value} {t:TypeId} (hp:Blk w p A t):p≠b:=by
 obtain ⟨es,clock,hb,_⟩:=h
 unfold Blk at hp
 rintro rfl
 rw [hp] at hb;cases hb
def Told3 (A:List Value) (R:List Rg.T) (i:Nat):Prop:=∀ j (h:j<R.length),j<i→∀ c,c<3→A[j*3+c]?=some (.int .i64 (Rg.at' R[j] c))
def idset3 (A:List Value) (o:Nat) (t:Rg.T):List Value:=((A.set o (.int .i64 t.1)).set (o+1) (.int .i64 t.2.1)).set (o+2) (.int .i64 t.2.2)
theorem idset3_len (A:List Value) (o:Nat) (t:Rg.T):(idset3 A o t).length=A.length:=by simp [idset3]
theorem told3 {A:List Value} {R:List Rg.T} {i:Nat} (h:Told3 A R i) (hi:i<R.length) (hA:A.length=R.length*3) {t:Rg.T} (ht:R[i]=t):Told3 (idset3 A (i*3) t) R (i+1):=by
 subst ht
 intro j hj hji c hc
 by_cases e:j=i
 · subst e
   unfold idset3
   rcases Rg.c3 hc with rfl | rfl | rfl
   · rw [List.getElem?_set_ne (by omega),List.getElem?_set_ne (by omega)]
     exact List.getElem?_set_self (by omega)
   · rw [List.getElem?_set_ne (by omega),List.getElem?_set_self (by rw [List.length_set];omega)];rfl
   · rw [List.getElem?_set_self (by rw [List.length_set,List.length_set];omega)];rfl
 · unfold idset3
   rw [List.getElem?_set_ne (by omega),List.getElem?_set_ne (by omega),List.getElem?_set_ne (by omega)]
   exact h j hj (by omega) c hc
theorem told3_at {W:World} {b N:Nat} {A:List Value} {R:List Rg.T} (hB:Blk W b A 77) (h:Told3 A R R.length) (hN:R.length=N) (hm2:N≤maxLen):IdsAt W (.slice (some ⟨b,0,none⟩) N N) R:=by
 refine ⟨some ⟨b,0,none⟩,N,by rw [hN],by omega,hm2,(fun h=>by cases h),Or.inr ⟨b,0,rfl,fun i hi c hc=>?_⟩⟩
 rw [Nat.zero_add]
 exact hB.cell (h i hi hi c hc)
theorem ids_step {L:List TR} {i:Nat} (hi:i<L.length) (h:i<(So.ids L).length):(So.ids L)[i]=So.nums (So.terms L) L[i]:=by simp [So.ids]
theorem okT_terms {L:List TR} (hl:∀ t∈L,Tm.isTri t=true):∀ a∈So.terms L,okT a:=fun a ha=>ok_is (So.terms_is hl a ha)
theorem wf_nat {k:Nat} (h:k≤1000000):(Lit.int .i64 ((k:Nat):Int)).wf=true:=by
 have h2:(k:Int)≤1000000:=by omega
 have h3:(0:Int)≤(k:Int):=by omega
 have e1:IntKind.i64.min = -9223372036854775808:=by decide
 have e2:IntKind.i64.max=9223372036854775807:=by decide
 simp only [Lit.wf,e1,e2,Bool.and_eq_true,decide_eq_true_eq]
 omega
theorem run_makeMapN (m:Nat) (w:World):(Instr.makeMap 145 (some (.int .i64 ((m:Nat):Int)))).run Tryz.prog w=.ok (.map (some w.heap.size)) (w.alloc (.map #[] 0)):=by
 simp [Instr.makeMap,run_underlying Tryz.underlying145,asInt,asIntOf,Result.andThen]
theorem build_any (L:List TR) (hl:∀ t∈L,Tm.isTri t=true) (hs:Tm.Srt L) (hn:L.length≤100) (w:World) (v:Value) (hv:TrisAt w v (L.map ofT)) :
  Calls Tryz.prog 43 #[v] w fun e w'=>∃ p,e=.returned (.tuple #[.pointer (some ⟨p,0,none⟩),.int .i64 0])∧IsStore w' p L∧Below w.heap.size w w':=by
 have hmm:=run_makeMapN
 obtain ⟨i0,hi0,hz0,hz1,hz2⟩:=info_parts Tryz.rginfo77
 have mk1:∀ (m:Nat) (W:World),m≤100→(Instr.makeSlice 79 (.int .i64 ((m:Nat):Int)) (.int .i64 ((m:Nat):Int))).run Tryz.prog W=.ok (.slice (some ⟨W.heap.size,0,none⟩) m m) (W.alloc (.cells (madeCells #[.int .i64 0,.int .i64 0,.int .i64 0] (m*3)) 77)):=fun m W hm=>by
  have h:=run_make W 79 77 i0 _ Tryz.underlying79 hi0 hz0 .i64 .i64 m m (by omega) (by omega) (by rw [hz2];omega) (by omega)
  rw [h,hz1,Int.toNat_natCast];rfl
 have TO:=hid (fun W hv=>termsOf_any L hl (by omega) W v hv)
 have RN:=hid (fun (u:Value) (W:World) (h:IdsAt W u (So.ids L))=>rnew_any u (So.ids L) W h (by rw [So.ids_len];omega))
 have HRM:=hid (So.ids_may hl hs hn)
 have HOKT:=hid (okT_terms hl)
 have HND:=hid (So.srt_nodup So.ordT (So.terms_srt hl))
 have HTL:=hid (show (So.terms L).length≤300 by have:=So.terms_len L;omega)
 have HIN:=hid (fun p (hp:p∈L)=>So.terms_tri hl hp)
 obtain ⟨a,cap,rfl,hc1,hc2,hc3⟩:=hv.open
 have HV:=hid hv
 have HL:=hid hl
 rw [List.length_map] at HV TO ⊢
 obtain ⟨n,hn0⟩:∃ n,n=L.length:=⟨_,rfl⟩
 rw [←hn0] at HV hn TO ⊢
 have HN:=hid hn0
 have MK:=hid (mk1 n)
 clear hv hl hs hc1 hc2 hc3 hn0 mk1
 go_enter Tryz.func43,Tryz.ntmps43
 go_upto_region 2 with (go_at_call 85;refine (TO.out _ HV.out).mono ?_;rintro e w1 ⟨ve,rfl,hT,hB1⟩;obtain ⟨ae,ce,rfl,he1,he2,he3⟩:=hT.open;have HT:=hid hT;have HB1:=hid hB1;have hz1':=hB1.size;clear hT hB1 he1 he2 he3)
 obtain ⟨m,hm0⟩:∃ m,m=(So.terms L).length:=⟨_,rfl⟩
 rw [←hm0] at HT HTL ⊢
 have HM0:=hid hm0
 have hm3:=HTL.out
 obtain ⟨w2,hw2⟩:∃ w2,w2=w1.alloc (.cells #[.slice a n cap,.slice ae m ce,.pointer none] 110):=⟨_,rfl⟩
 have HP2:=hid (show Blk w2 w1.heap.size [.slice a n cap,.slice ae m ce,.pointer none] 110 by rw [hw2];exact Blk.new' rfl rfl)
 have HB2:=hid (show Below w1.heap.size w1 w2 by rw [hw2];exact (Below.refl _ _).alloc (Nat.le_refl _) _)
 have hs2:w2.heap.size=w1.heap.size+1:=by rw [hw2];simp
 have HS2:=hid hs2
 rw [←hw2]
 clear hw2 hs2 hm0
 obtain ⟨p,hp⟩:∃ p,p=w1.heap.size:=⟨_,rfl⟩
 rw [←hp] at HP2 HS2 ⊢
 have HPP:=hid hp
 have hp1:p<w2.heap.size:=HP2.out.lt
 clear hp
 have p0:=HP2.out.cell (i:=0) rfl
 have p1:=HP2.out.cell (i:=1) rfl
 have p2:=HP2.out.cell (i:=2) rfl
 go_upto_region 3 with fail
 obtain ⟨w3,hw3⟩:∃ w3,w3=w2.alloc (.map #[] 0):=⟨_,rfl⟩
 have HM3:=hid (show w3.ownsMap Tryz.prog 61 (plainElem Tryz.prog 3) w2.heap.size 0 (numD (So.terms L) 0) by rw [hw3];exact World.ownsMap_made _ _ _ _)
 have HP3:=hid (show Blk w3 p [.slice a n cap,.slice ae m ce,.pointer none] 110 by rw [hw3];exact HP2.out.alloc _)
 have HB3:=hid (show Below p w1 w3 by rw [hw3,HPP.out];exact HB2.out.alloc (by rw [←HPP.out];omega) _)
 rw [←hw3]
 clear hw3 p0 p1 p2
 obtain ⟨b,hb⟩:∃ b,b=w2.heap.size:=⟨_,rfl⟩
 rw [←hb] at HM3 hp1 ⊢
 have HBB:=hid hb
 clear hb
 have p0:=HP3.out.cell (i:=0) rfl
 have p1:=HP3.out.cell (i:=1) rfl
 have p2:=HP3.out.cell (i:=2) rfl
 go_upto_region 4 with fail
 clear p0 p1 p2
 go_loopg [29] m (fun gk s29 wr=>∃ i:Nat,s29=.int .i64 i∧i≤m∧m-i≤gk∧Hid (Below p w1 wr)∧Hid (Blk wr p [.slice a n cap,.slice ae m ce,.pointer none] 110)∧Hid (wr.ownsMap Tryz.prog 61 (plainElem Tryz.prog 3) b i (numD (So.terms L) i)))
 case atStart=>exact ⟨0,rfl,Nat.zero_le _,Nat.le_refl _,HB3,HP3,HM3⟩
 case round=>
  obtain ⟨i,rfl,him,hg,HB,HP,HM⟩:=hrel
  by_cases hlt:i<m
  · have hltz:(i:Int)<(m:Int):=by omega
    have hiE:i<(So.terms L).length:=by rw [←HM0.out];exact hlt
    have HB':=hid (show Below w1.heap.size w1 wr by rw [←HPP.out];exact HB.out)
    obtain ⟨be,off,rfl,hrow⟩:=(HT.out.keep HB'.out).get hiE
    have HSUC:=hid (numD_succ (So.terms L) i hiE)
    obtain ⟨t,ht⟩:∃ t,t=(So.terms L)[i]:=⟨_,rfl⟩
    have c0:=hrow i hiE 0 (by omega)
    have c1:=hrow i hiE 1 (by omega)
    have c2:=hrow i hiE 2 (by omega)
    rw [←ht] at c0 c1 c2 HSUC
    have HOK:=hid (show okT t by rw [ht];exact HOKT.out _ (List.getElem_mem _))
    have HKEY:=hid (tmKey_key HOK.out)
    clear ht hrow hiE
    obtain ⟨k,tt,xx⟩:=t
    simp only [tm3,List.getElem?_cons_zero,List.getElem?_cons_succ,Nat.add_zero] at c0 c1 c2
    have hpw:p<wr.heap.size:=HP.out.lt
    have hbp:p≠b:=map_off HM.out HP.out
    have HNE:=hid hbp
    clear hbp
    obtain ⟨w4,hw4⟩:∃ w4,w4=wr.alloc (.cells #[.int .i64 (k:Nat),str tt,str xx] 61):=⟨_,rfl⟩
    have HU4:=hid (show Blk w4 wr.heap.size [.int .i64 (k:Nat),str tt,str xx] 61 by rw [hw4];exact Blk.new' rfl rfl)
    have HB4:=hid (show Below p w1 w4 by rw [hw4];exact HB.out.alloc (by omega) _)
    have HP4:=hid (show Blk w4 p [.slice a n cap,.slice (some ⟨be,off,none⟩) m ce,.pointer none] 110 by rw [hw4];exact HP.out.alloc _)
    have HM4:=hid (show w4.ownsMap Tryz.prog 61 (plainElem Tryz.prog 3) b i (numD (So.terms L) i) by rw [hw4];exact HM.out.alloc _)
    have HW4:=hid hw4
    clear hw4
    go_upto_region 6 with fail
    rw [←HW4.out]
    clear c0 c1 c2
    have d0:=HU4.out.cell (i:=0) rfl
    have d1:=HU4.out.cell (i:=1) rfl
    have d2:=HU4.out.cell (i:=2) rfl
    have HWF:=hid (show (Lit.int .i64 ((i:Int)+1)).wf=true from wf_nat (k:=i+1) (by omega))
    go_upto_region 7 with (at_mapUpdate;refine wpList_mapUpdate_own _ rfl _ _ _ 145 rfl 61 3 term_keyed Tryz.underlying145 _ b i (numD (So.terms L) i) rfl HM4.out (by unfold maxLen;omega) _ _ _ rfl rfl HKEY.out (.lit (.int .i64 ((i:Int)+1))) [] (plainElem_int Tryz.underlying3 HWF.out) ?_;intro w6 hM6 hg6)
    have HB6:=hid (HB4.out.grown hg6 (by have:=HP4.out.lt;omega) (fun k hk=>by cases hk;have:=HBB.out;have:=HS2.out;omega))
    have HP6:=hid (HP4.out.map hg6 HNE.out)
    have HM6:=hid (show w6.ownsMap Tryz.prog 61 (plainElem Tryz.prog 3) b (i+1) (numD (So.terms L) (i+1)) by rw [HSUC.out];exact hM6)
    clear hM6 hg6 d0 d1 d2
    go_wp2
    go_roundg (m-(i+1))
    case measure=>omega
    case rel=>exact ⟨i+1,by go_num,by omega,by omega,HB6,HP6,HM6⟩
  · obtain rfl:i=m:=by omega
    have HMD:=hid (show wr.ownsMap Tryz.prog 61 (plainElem Tryz.prog 3) b i (numD (So.terms L) (So.terms L).length) by have h:=HM.out;rw [HM0.out] at h ⊢;exact h)
    have hpw:p<wr.heap.size:=HP.out.lt
    have hbp:p≠b:=map_off HM.out HP.out
    have HNE:=hid hbp
    have hbw:=HM.out.lt
    have HSZ:=hid (show w1.heap.size≤wr.heap.size from HB.out.size)
    clear hbp HM
    have MKn:=fun W=>MK.out W hn
    obtain ⟨A0,hA0⟩:∃ A0:List Value,A0=(madeCells #[.int .i64 0,.int .i64 0,.int .i64 0] (n*3)).toList:=⟨_,rfl⟩
    have hAl:A0.length=n*3:=by rw [hA0];simp [size_madeCells]
    have HA0:=hid hA0
    have HAL:=hid hAl
    clear hA0 hAl hz0 hz1 hz2
    go_upto_region 9 with fail
    obtain ⟨w5,hw5⟩:∃ w5,w5=wr.alloc (.cells (madeCells #[.int .i64 0,.int .i64 0,.int .i64 0] (n*3)) 77):=⟨_,rfl⟩
    have HQ5:=hid (show Blk w5 wr.heap.size A0 77 by rw [hw5];exact Blk.new' rfl HA0.out.symm)
    have HB5:=hid (show Below p w1 w5 by rw [hw5];exact HB.out.alloc (by omega) _)
    have HP5:=hid (show Blk w5 p [.slice a n cap,.slice ae i ce,.pointer none] 110 by rw [hw5];exact HP.out.alloc _)
    have HM5:=hid (show w5.ownsMap Tryz.prog 61 (plainElem Tryz.prog 3) b i (numD (So.terms L) (So.terms L).length) by rw [hw5];exact HMD.out.alloc _)
    rw [←hw5]
    clear hw5 MKn
    obtain ⟨q,hq⟩:∃ q,q=wr.heap.size:=⟨_,rfl⟩
    rw [←hq] at HQ5 hpw hbw HSZ ⊢
    clear hq
    go_upto_region 10 with fail
    go_loopg [44] n (fun gk2 s44 wr=>∃ (j:Nat) (A:List Value),s44=.int .i64 j∧j≤n∧n-j≤gk2∧Hid (Below p w1 wr)∧Hid (Blk wr p [.slice a n cap,.slice ae i ce,.pointer none] 110)∧Hid (wr.ownsMap Tryz.prog 61 (plainElem Tryz.prog 3) b i (numD (So.terms L) (So.terms L).length))∧Hid (Blk wr q A 77)∧Hid (A.length=n*3)∧Hid (Told3 A (So.ids L) j))
    case atStart=>exact ⟨0,A0,rfl,Nat.zero_le _,Nat.le_refl _,HB5,HP5,HM5,HQ5,HAL,hid (fun j hj h=>absurd h (by omega))⟩
    case round=>
     obtain ⟨j,A,rfl,hjn,hg2,HB,HP,HM,HQ,HWA,HTO⟩:=hrel
     by_cases hlt2:j<n
     · have hltz:(j:Int)<(n:Int):=by omega
       have hjL:j<L.length:=by rw [←HN.out];exact hlt2
       have HB':=hid (show Below w1.heap.size w1 wr from by rw [←HPP.out];exact HB.out)
       have HVr:=hid ((HV.out.keep HB1.out).keep HB'.out)
       obtain ⟨bl,off,rfl,hrow⟩:=HVr.out.get (i:=j) (by rw [List.length_map];exact hjL)
       have HRW:=hid (hrow j (by rw [List.length_map];exact hjL))
       rw [List.getElem_map] at HRW
       have HNUM:=hid (ids_step hjL (by rw [So.ids_len];exact hjL))
       have HIT:=hid (HIN.out L[j] (List.getElem_mem hjL))
       obtain ⟨t,ht⟩:∃ t,t=L[j]:=⟨_,rfl⟩
       rw [←ht] at HRW HNUM HIT
       obtain ⟨⟨n1,t1,x1⟩,⟨n2,t2,x2⟩,n3,t3,x3⟩:=t
       clear ht hrow
       have c0:=HRW.out 0 (by omega)
       have c1:=HRW.out 1 (by omega)
       have c2:=HRW.out 2 (by omega)
       have c3:=HRW.out 3 (by omega)
       have c4:=HRW.out 4 (by omega)
       have c5:=HRW.out 5 (by omega)
       have c6:=HRW.out 6 (by omega)
       have c7:=HRW.out 7 (by omega)
       have c8:=HRW.out 8 (by omega)
       simp only [ofT,Tri.cells,List.getElem?_cons_zero,List.getElem?_cons_succ,Nat.add_zero] at c0 c1 c2 c3 c4 c5 c6 c7 c8
       have hpr:p<wr.heap.size:=HP.out.lt
       obtain ⟨w7,hw7⟩:∃ w7,w7=new9 wr n1 t1 x1 n2 t2 x2 n3 t3 x3:=⟨_,rfl⟩
       have HB7:=hid (show Below p w1 w7 by rw [hw7];exact HB.out.alloc (by omega) _)
       have HP7:=hid (show Blk w7 p [.slice (some ⟨bl,off,none⟩) n cap,.slice ae i ce,.pointer none] 110 by rw [hw7];exact HP.out.alloc _)
       have HM7:=hid (show w7.ownsMap Tryz.prog 61 (plainElem Tryz.prog 3) b i (numD (So.terms L) (So.terms L).length) by rw [hw7];exact HM.out.alloc _)
       have HQ7:=hid (show Blk w7 q A 77 by rw [hw7];exact HQ.out.alloc _)
       have HU7:=hid (show Blk w7 wr.heap.size [.int .i64 (n1:Nat),str t1,str x1,.int .i64 (n2:Nat),str t2,str x2,.int .i64 (n3:Nat),str t3,str x3] 67 by rw [hw7];exact new9_new wr n1 t1 x1 n2 t2 x2 n3 t3 x3)
       have HW7:=hid hw7
       have hqw:q<w7.heap.size:=HQ7.out.lt
       clear hw7
       go_upto_region 12 with fail
       show Code.wp _ _ _ _ (new9 wr n1 t1 x1 n2 t2 x2 n3 t3 x3)
       rw [←HW7.out]
       clear c0 c1 c2 c3 c4 c5 c6 c7 c8
       have c0:=HU7.out.cell (i:=0) rfl
       have c1:=HU7.out.cell (i:=1) rfl
       have c2:=HU7.out.cell (i:=2) rfl
       have c3:=HU7.out.cell (i:=3) rfl
       have c4:=HU7.out.cell (i:=4) rfl
       have c5:=HU7.out.cell (i:=5) rfl
       have c6:=HU7.out.cell (i:=6) rfl
       have c7:=HU7.out.cell (i:=7) rfl
       have c8:=HU7.out.cell (i:=8) rfl
       have LK:=hid (fun (t:T3) (ht:okT t)=>(show (Instr.lookup 145 (.map (some b)) (tmv t) false).run Tryz.prog w7.drew=.ok (.int .i64 (So.num (So.terms L) t:Nat)) w7.drew from by
        obtain ⟨c,hr,hat,_⟩:=World.ownsMap.lookup_int (w:=w7.drew) HM7.out term_keyed Tryz.underlying145 Tryz.underlying3 (Tryz.zeroValue3 _) (tmKey_key ht)
        rw [numD_all HND.out HOKT.out ht] at hat
        simp only [DataW.lit.injEq,Lit.int.injEq,true_and] at hat
        rw [hr,hat]))
       have l1:=LK.out (n1,t1,x1) (HOKT.out _ HIT.out.1)
       have l2:=LK.out (n2,t2,x2) (HOKT.out _ HIT.out.2.1)
       have l3:=LK.out (n3,t3,x3) (HOKT.out _ HIT.out.2.2)
       have hA3:j*3+3≤A.length:=by have:=HWA.out;omega
       have d0:=HQ7.out.cell (i:=j*3) (v:=A[j*3]) (List.getElem?_eq_getElem (by omega))
       have d1:=HQ7.out.cell (i:=j*3+1) (v:=A[j*3+1]) (List.getElem?_eq_getElem (by omega))
       have d2:=HQ7.out.cell (i:=j*3+2) (v:=A[j*3+2]) (List.getElem?_eq_getElem (by omega))
       have f0:=HQ7.out.free (j*3)
       have f1:=HQ7.out.free (j*3+1)
       have f2:=HQ7.out.free (j*3+2)
       generalize A[j*3]=z0 at d0
       generalize A[j*3+1]=z1 at d1
       generalize A[j*3+2]=z2 at d2
       obtain ⟨m1,hm1⟩:∃ m1,m1=So.num (So.terms L) (n1,t1,x1):=⟨_,rfl⟩
       obtain ⟨m2,hm2⟩:∃ m2,m2=So.num (So.terms L) (n2,t2,x2):=⟨_,rfl⟩
       obtain ⟨m3,hm3⟩:∃ m3,m3=So.num (So.terms L) (n3,t3,x3):=⟨_,rfl⟩
       rw [←hm1] at l1
       rw [←hm2] at l2
       rw [←hm3] at l3
       have HMM:=hid (show So.nums (So.terms L) ((n1,t1,x1),(n2,t2,x2),n3,t3,x3)=((m1:Int),(m2:Int),(m3:Int)) by rw [hm1,hm2,hm3];rfl)
       clear hm1 hm2 hm3 hA3
       go_region
       clear l1 l2 l3 d0 d1 d2 f0 f1 f2 c0 c1 c2 c3 c4 c5 c6 c7 c8
       have HB8:=hid (show Below p w1 ((((w7.setCell ⟨q,j*3,none⟩ (.int .i64 (m1:Nat))).setCell ⟨q,j*3+1,none⟩ (.int .i64 (m2:Nat))).setCell ⟨q,j*3+2,none⟩ (.int .i64 (m3:Nat))).drew) from ((((HB7.out.setCell (by show p≤q;omega) _).setCell (by show p≤q;omega) _).setCell (by show p≤q;omega) _).drew))
       have HQ8:=hid (show Blk ((((w7.setCell ⟨q,j*3,none⟩ (.int .i64 (m1:Nat))).setCell ⟨q,j*3+1,none⟩ (.int .i64 (m2:Nat))).setCell ⟨q,j*3+2,none⟩ (.int .i64 (m3:Nat))).drew) q (idset3 A (j*3) ((m1:Int),(m2:Int),(m3:Int))) 77 from ((((HQ7.out.set _ _).set _ _).set _ _)))
       have HP8:=hid (show Blk ((((w7.setCell ⟨q,j*3,none⟩ (.int .i64 (m1:Nat))).setCell ⟨q,j*3+1,none⟩ (.int .i64 (m2:Nat))).setCell ⟨q,j*3+2,none⟩ (.int .i64 (m3:Nat))).drew) p [.slice (some ⟨bl,off,none⟩) n cap,.slice ae i ce,.pointer none] 110 from (((HP7.out.other (by omega) _ _).other (by omega) _ _).other (by omega) _ _))
       have hqb:b≠q:=by omega
       have HM8:=hid (show ((((w7.setCell ⟨q,j*3,none⟩ (.int .i64 (m1:Nat))).setCell ⟨q,j*3+1,none⟩ (.int .i64 (m2:Nat))).setCell ⟨q,j*3+2,none⟩ (.int .i64 (m3:Nat))).drew).ownsMap Tryz.prog 61 (plainElem Tryz.prog 3) b i (numD (So.terms L) (So.terms L).length) from (((HM7.out.setCell hqb _).setCell hqb _).setCell hqb _).drew)
       have HTO8:=hid (told3 HTO.out (by rw [So.ids_len];exact hjL) (by rw [HWA.out,So.ids_len,HN.out]) (HNUM.out.trans HMM.out))
       go_wp2
       go_roundg (n-(j+1))
       case measure=>omega
       case rel=>exact ⟨j+1,_,by go_num,by omega,by omega,HB8.out,HP8.out,HM8.out,HQ8.out,by show _=_;rw [idset3_len];exact HWA.out,HTO8.out⟩
     · obtain rfl:j=n:=by omega
       have HID:=hid (show IdsAt wr (.slice (some ⟨q,0,none⟩) j j) (So.ids L) from told3_at HQ.out (by rw [So.ids_len,←HN.out];exact HTO.out) (by rw [So.ids_len];exact HN.out.symm) (by unfold maxLen;omega))
       have hpr:p<wr.heap.size:=HP.out.lt
       go_upto_region 15 with (go_at_call 86;refine (RN.out _ _ HID.out).mono ?_;rintro e w8 ⟨hb8,hres⟩;obtain ⟨r,rfl,hF⟩:∃ r,e=.returned (.tuple #[.pointer (some ⟨r,0,none⟩),.int .i64 0])∧Fresh wr.heap.size w8 (fun W=>IsRing W r (So.ids L)):=(by rcases hres with ⟨_,r,h1,h2⟩ | ⟨h1,_⟩;exact ⟨r,h1,h2⟩;exact absurd HRM.out h1);have HB8:=hid hb8;have HF8:=hid hF;clear hb8 hres hF)
       have HP8:=hid (HP.out.keep HB8.out)
       have p2:=HP8.out.cell (i:=2) rfl
       have f2:=HP8.out.free 2
       have hp8:=HP8.out.lt
       have HB9:=hid (show Below p w1 (w8.setCell ⟨p,2,none⟩ (.pointer (some ⟨r,0,none⟩))) from (HB.out.trans (HB8.out.mono (by omega))).setCell (Nat.le_refl _) _)
       have HP9:=hid (show Blk (w8.setCell ⟨p,2,none⟩ (.pointer (some ⟨r,0,none⟩))) p [.slice a j cap,.slice ae i ce,.pointer (some ⟨r,0,none⟩)] 110 from HP8.out.set 2 _)
       have HR9:=hid (fresh_set HF8.out p 2 (.pointer (some ⟨r,0,none⟩)) hpr).it
       go_wp2
       go_ret2
       have hb9:Below w1.heap.size w1 (w8.setCell ⟨p,2,none⟩ (.pointer (some ⟨r,0,none⟩))):=by rw [←HPP.out];exact HB9.out
       exact ⟨p,rfl,⟨_,_,r,HP9.out,(HV.out.keep HB1.out).keep hb9,HT.out.keep hb9,HR9.out⟩,below_then HB1.out hb9⟩
end Go.Proofs.YtjaebndajhppgaaGreatDoor
namespace Go.Proofs.YtjaebndajhppgaaGreatDoor
open Go.ChangeShapes Go.WideShapes Go.ChangeAt Go.RowKit
def Pr (w:World) (q:Nat) (l:List UInt8) (i:Nat):Prop:=Blk w q [str l,.int .i64 i] 192
theorem Pr.cells {w:World} {q:Nat} {l:List UInt8} {i:Nat} (h:Pr w q l i):w.cell? ⟨q,0,none⟩=some (str l)∧w.cell? ⟨q,1,none⟩=some (.int .i64 i)∧w.frozen? ⟨q,0,none⟩=false∧w.frozen? ⟨q,1,none⟩=false:=
 ⟨Blk.cell h rfl,Blk.cell h rfl,Blk.free h 0,Blk.free h 1⟩
theorem Pr.keep {w w':World} {q:Nat} {l:List UInt8} {i:Nat} (h:Pr w q l i) (hb:Below w.heap.size w w'):Pr w' q l i:=Blk.keep h hb
theorem Pr.to {w:World} {q:Nat} {l:List UInt8} {i:Nat} (h:Pr w q l i) (j:Nat):Pr (w.setCell ⟨q,1,none⟩ (.int .i64 j)) q l j:=Blk.set h 1 _
theorem hasp_any (s p:List UInt8) (W:World) (h1:s.length≤9223372036854775807) (h2:p.length≤9223372036854775807):Calls Tryz.prog 210 #[str s,str p] W fun e W'=>e=.returned (.bool (decide (s.take p.length=p)))∧W'=W:=by
 have SH:Hid (∀ w,Calls Tryz.prog 238 #[str s,str p] w fun e W'=>e=.returned (.bool (decide (s.take p.length=p)))∧W'=w):=by
  intro w
  by_cases h:p.length≤s.length
  · have hz:(p.length:Int)≤(s.length:Int):=by omega
    have ht:=ba_take s p.length
    have hx:((s.take p.length)==p)=decide (s.take p.length=p):=by
     rw [Bool.eq_iff_iff];simp
    go_enter Tryz.func238,Tryz.ntmps238
    go_wp2
    go_ret
    exact ⟨by simp,rfl⟩
  · have hz:(s.length:Int)<(p.length:Int):=by omega
    have HN:=hid (show decide (s.take p.length=p)=false by
     rw [decide_eq_false_iff_not];intro he;have:=congrArg List.length he;rw [List.length_take] at this;omega)
    go_enter Tryz.func238,Tryz.ntmps238
    go_wp2
    go_ret
    exact ⟨by rw [HN.out];rfl,rfl⟩
 go_enter Tryz.func210,Tryz.ntmps210
 go_wp2_with (go_at_call 238;refine (SH.out _).mono ?_;rintro e w' ⟨rfl,rfl⟩)
 go_ret
 exact ⟨rfl,rfl⟩
theorem drop_get (l:List UInt8) (i:Nat) (c:UInt8) (u:List UInt8) (h:l.drop i=c::u):i<l.length∧l[i]?=some c∧l.drop (i+1)=u:=by
 have h1:i<l.length:=by
  rcases Nat.lt_or_ge i l.length with k | k
  · exact k
  · rw [List.drop_of_length_le k] at h;cases h
 have h2:=List.drop_eq_getElem_cons h1
 rw [h] at h2
 simp only [List.cons.injEq] at h2
 exact ⟨h1,by rw [List.getElem?_eq_getElem h1,←h2.1],h2.2.symm⟩
theorem drop_none (l:List UInt8) (i:Nat) (h:l.drop i=[]):l.length≤i:=by
 rcases Nat.lt_or_ge i l.length with k | k
 · rw [List.drop_eq_getElem_cons k] at h;cases h
 · exact k
theorem pblanks_any (q:Nat) (l:List UInt8) (i:Nat) (w:World) (hr:Pr w q l i) (hl:l.length≤100000000) (hi:i≤l.length) :
  Calls Tryz.prog 123 #[rdp q] w fun x w'=>x=.returned (.tuple #[])∧(∃ j,j≤l.length∧l.drop j=(l.drop i).dropWhile blankC∧Pr w' q l j)∧But q w w':=by
 have HR:=hid hr
 clear hr
 go_enter Tryz.func123,Tryz.ntmps123
 go_wp2
 go_loopg [] l.length (fun gk wr=>∃ j:Nat,j≤l.length∧l.length-j≤gk∧Hid (Pr wr q l j)∧Hid (But q w wr)∧Hid ((l.drop j).dropWhile blankC=(l.drop i).dropWhile blankC))
 case atStart=>exact ⟨i,hi,by omega,HR,But.refl _ _,rfl⟩
 case round=>
  obtain ⟨j,hj,hg,HT,HB,HD⟩:=hrel
  obtain ⟨c0,c1,f0,f1⟩:=HT.out.cells
  match hd:l.drop j with
  | []=>
   have hjl:j=l.length:=by have:=drop_none l j hd;omega
   have HDD:=hid hd
   subst hjl
   have hjb:decide ((l.length:Int)<(l.length:Int))=false:=decide_eq_false (by omega)
   clear hd
   go_wp2
   go_quiet (fail)
   go_wp2
   refine bodyPost_end (v:=.tuple #[]) (by kernel_rfl) rfl ?_
   refine ⟨rfl,⟨l.length,Nat.le_refl _,?_,HT.out⟩,HB.out.trans (But.drawn q wr _)⟩
   rw [←HD.out,HDD.out];rfl
  | c::u=>
   obtain ⟨hjl,hget,hdu⟩:=drop_get l j c u hd
   have hcc:=fun q=>ba_get l j c hget q
   have hjI:(j:Int)<(l.length:Int):=by omega
   have hjb:decide ((j:Int)<(l.length:Int))=true:=decide_eq_true hjI
   have HDD:=hid hd
   have HDU:=hid hdu
   clear hd hdu hget
   by_cases h:c.toNat=32∨c.toNat=9
   · have HD2:=hid (show (l.drop (j+1)).dropWhile blankC=(l.drop i).dropWhile blankC by rw [←HD.out,HDD.out,HDU.out,List.dropWhile_cons,blankC_true h];rfl)
     rcases h with h | h
     · have b1:((c.toNat:Int)==32)=true:=beq_iff_eq.2 (by omega)
       clear h
       go_wp2
       go_quiet (fail)
       go_wp2
       go_roundg (l.length-(j+1))
       case measure=>omega
       case rel=>exact ⟨j+1,by omega,Nat.le_refl _,hid (Pr.to (w:=wr.drewN nq) HT.out (j+1)),hid ((HB.out.trans (But.drawn q wr nq)).trans (But.set q _ 1 _)),HD2⟩
     · have b1:((c.toNat:Int)==32)=false:=beq_eq_false_iff_ne.2 (by omega)
       have b2:((c.toNat:Int)==9)=true:=beq_iff_eq.2 (by omega)
       clear h
       go_wp2
       go_quiet (fail)
       go_wp2
       go_roundg (l.length-(j+1))
       case measure=>omega
       case rel=>exact ⟨j+1,by omega,Nat.le_refl _,hid (Pr.to (w:=wr.drewN nq) HT.out (j+1)),hid ((HB.out.trans (But.drawn q wr nq)).trans (But.set q _ 1 _)),HD2⟩
   · have HD2:=hid (show l.drop j=(l.drop i).dropWhile blankC by rw [←HD.out,HDD.out,List.dropWhile_cons,blankC_false (by omega)];rfl)
     have b1:((c.toNat:Int)==32)=false:=beq_eq_false_iff_ne.2 (by omega)
     have b2:((c.toNat:Int)==9)=false:=beq_eq_false_iff_ne.2 (by omega)
     clear h
     go_wp2
     go_quiet (fail)
     go_wp2
     refine bodyPost_end (v:=.tuple #[]) (by kernel_rfl) rfl ?_
     exact ⟨rfl,⟨j,hj,HD2.out,HT.out⟩,HB.out.trans (But.drawn q wr _)⟩
theorem pskip_any (q:Nat) (l p:List UInt8) (i:Nat) (w:World) (hr:Pr w q l i) (hl:l.length≤100000000) (hi:i≤l.length) (hp:p.length≤1000) :
  Calls Tryz.prog 174 #[rdp q,str p] w fun x w'=>x=.returned (.bool (decide ((l.drop i).take p.length=p)))∧Pr w' q l (if (l.drop i).take p.length=p then i+p.length else i)∧But q w w':=by
 have HR:=hid hr
 obtain ⟨c0,c1,f0,f1⟩:=hr.cells
 have hbd:=ba_drop l i
 have HP:=hid fun w=>hasp_any (l.drop i) p w (by rw [List.length_drop];omega) (by omega)
 have hiI:(i:Int)≤(l.length:Int):=by omega
 clear hr
 by_cases h:(l.drop i).take p.length=p
 · rw [decide_eq_true h] at HP ⊢
   rw [if_pos h]
   have hlen:i+p.length≤l.length:=by
    have:=congrArg List.length h
    rw [List.length_take,List.length_drop] at this;omega
   clear h
   go_enter Tryz.func174,Tryz.ntmps174
   go_wp2
   go_quiet ((go_at_call 210;exact drawn_same fun W hW=>HP.out W))
   go_wp2
   go_ret
   exact ⟨rfl,Pr.to (w:=w.drewN nq) HR.out _,(But.drawn q w nq).trans (But.set q _ 1 _)⟩
 · rw [decide_eq_false h] at HP ⊢
   rw [if_neg h]
   clear h
   go_enter Tryz.func174,Tryz.ntmps174
   go_wp2
   go_quiet ((go_at_call 210;exact drawn_same fun W hW=>HP.out W))
   go_wp2
   go_ret
   exact ⟨rfl,HR.out,But.drawn q w nq⟩
theorem plabel_any (c:UInt8) (w:World) :
  Calls Tryz.prog 208 #[.int .u8 (c.toNat:Nat)] w fun e w'=>e=.returned (.bool (Tm.alnum c))∧w'=w:=by
 unfold Tm.alnum Tm.small Tm.digit
 go_enter Tryz.func208,Tryz.ntmps208
 rcases (show c.toNat<48∨(48≤c.toNat∧c.toNat≤57)∨(57<c.toNat∧c.toNat<65)∨(65≤c.toNat∧c.toNat≤90)∨(90<c.toNat∧c.toNat<97)∨(97≤c.toNat∧c.toNat≤122)∨122<c.toNat by omega) with h | ⟨h,h'⟩ | ⟨h,h'⟩ | ⟨h,h'⟩ | ⟨h,h'⟩ | ⟨h,h'⟩ | h
 all_goals
  go_wp2
  go_ret
  refine ⟨ret_bool ?_,rfl⟩
  rw [Bool.eq_iff_iff]
  all_goals (simp <;> omega)
theorem plang_any (c:UInt8) (w:World) :
  Calls Tryz.prog 237 #[.int .u8 (c.toNat:Nat)] w fun e w'=>e=.returned (.bool (Tm.alnumD c))∧w'=w:=by
 have LB:=hid fun w=>plabel_any c w
 by_cases h:c.toNat=45
 · have hc:c=45:=UInt8.toNat_inj.1 h
   have HR:=hid (show Tm.alnumD c=true by rw [hc];decide)
   go_enter Tryz.func237,Tryz.ntmps237
   go_wp2_with (go_at_call 208;refine (LB.out _).mono ?_;rintro e w' ⟨rfl,rfl⟩)
   go_ret
   exact ⟨by rw [HR.out];rfl,rfl⟩
 · have hb:((c.toNat:Int)==45)=false:=beq_eq_false_iff_ne.2 (by omega)
   have HR:=hid (show Tm.alnumD c=Tm.alnum c by
    unfold Tm.alnumD
    have:(c==45)=false:=beq_eq_false_iff_ne.2 (fun e=>h (by rw [e];rfl))
    rw [this,Bool.or_false])
   go_enter Tryz.func237,Tryz.ntmps237
   go_wp2_with (go_at_call 208;refine (LB.out _).mono ?_;rintro e w' ⟨rfl,rfl⟩)
   go_ret
   exact ⟨by rw [HR.out];rfl,rfl⟩
theorem pended_any (q:Nat) (l:List UInt8) (i:Nat) (w:World) (hr:Pr w q l i) (hl:l.length≤100000000) (hi:i≤l.length) :
  Calls Tryz.prog 124 #[rdp q] w fun x w'=>x=.returned (.bool (decide (l.drop i=[]∨(l.drop i).head?=some 35)))∧∃ n,w'=w.drewN n:=by
 obtain ⟨c0,c1,f0,f1⟩:=hr.cells
 clear hr
 match hd:l.drop i with
 | []=>
  have hil:i=l.length:=by have:=drop_none l i hd;omega
  subst hil
  clear hd
  go_enter Tryz.func124,Tryz.ntmps124
  go_wp2
  go_quiet (fail)
  go_wp2
  go_ret
  exact ⟨rfl,_,rfl⟩
 | c::u=>
  obtain ⟨hjl,hget,hdu⟩:=drop_get l i c u hd
  have hcc:=fun q=>ba_get l i c hget q
  have hjI:(i:Int)<(l.length:Int):=by omega
  have hne:((i:Int)==(l.length:Int))=false:=beq_eq_false_iff_ne.2 (by omega)
  have HR:=hid (show decide (c::u=[]∨(c::u).head?=some 35)=((c.toNat:Int)==35) by
   rw [Bool.eq_iff_iff]
   simp only [decide_eq_true_eq,List.head?_cons,Option.some.injEq,beq_iff_eq,reduceCtorEq,false_or]
   constructor
   · intro e;rw [e];rfl
   · intro e;exact UInt8.toNat_inj.1 (by show c.toNat=35;omega))
  clear hd hget hdu
  go_enter Tryz.func124,Tryz.ntmps124
  go_wp2
  go_quiet (fail)
  go_wp2
  go_ret
  exact ⟨by rw [HR.out];rfl,_,rfl⟩
theorem pname_any (g q:Nat) (p:UInt8→Bool) (l:List UInt8) (i:Nat) (w:World) (eg:∀ args w,(callFunc g args).run Tryz.prog w=.ok (.enter g args) w) (hg:∀ (c:UInt8) W,Calls Tryz.prog g #[.int .u8 (c.toNat:Nat)] W fun e w'=>e=.returned (.bool (p c))∧w'=W)
  (hr:Pr w q l i) (hl:l.length≤100000000) (hi:i≤l.length) :
  Calls Tryz.prog 207 #[rdp q,.func (.func g) #[] #[]] w fun x w'=>x=.returned (str ((l.drop i).takeWhile p))∧(∃ j,j≤l.length∧l.drop j=(l.drop i).dropWhile p∧Pr w' q l j)∧But q w w':=by
 have HR:=hid hr
 have HG:=hid hg
 obtain ⟨k0,k1,h0,h1⟩:=hr.cells
 clear hr hg h0 h1
 go_enter Tryz.func207,Tryz.ntmps207
 go_wp2
 go_loopg [] l.length (fun gk wr=>∃ j:Nat,i≤j∧j≤l.length∧l.length-j≤gk∧Hid (Pr wr q l j)∧Hid (But q w wr)∧Hid (((l.drop i).take (j-i)).all p=true))
 case atStart=>exact ⟨i,Nat.le_refl _,hi,by omega,HR,But.refl _ _,hid (by simp)⟩
 case round=>
  obtain ⟨j,hij,hj,hgk,HT,HB,HA⟩:=hrel
  obtain ⟨c0,c1,f0,f1⟩:=HT.out.cells
  have hex:(⟨l.toArray⟩:ByteArray).extract i j=⟨((l.drop i).take (j-i)).toArray⟩:=ba_extract l i j
  have hijI:(i:Int)≤(j:Int):=by omega
  have hjlI:(j:Int)≤(l.length:Int):=by omega
  have hdd:(l.drop i).drop (j-i)=l.drop j:=by rw [List.drop_drop];congr 1;omega
  by_cases hlt:j<l.length
  · obtain ⟨c,hc⟩:∃ c,l[j]?=some c:=⟨_,List.getElem?_eq_getElem hlt⟩
    have hc2:(l.drop i)[j-i]?=some c:=by rw [List.getElem?_drop,show i+(j-i)=j by omega];exact hc
    have hcc:=fun q=>ba_get l j c hc q
    have hjI:(j:Int)<(l.length:Int):=by omega
    have GC:=hid fun W=>HG.out c W
    have hjb:decide ((j:Int)<(l.length:Int))=true:=decide_eq_true hjI
    cases hp:p c
    · have HTW:=hid (takeWhile_at p (l.drop i) (j-i) (by rw [List.length_drop];omega) HA.out (fun c' hc'=>by rw [hc2] at hc';cases hc';exact hp))
      rw [hp] at GC
      have HDD:=hid hdd
      clear hp hc hc2 hdd
      go_wp2
      go_quiet ((go_at_fn g;exact drawn_same fun W hW=>GC.out W))
      go_wp2
      go_quiet (fail)
      go_wp2
      go_ret
      refine ⟨by rw [HTW.out.1];rfl,⟨j,hj,by rw [HTW.out.2,HDD.out],HT.out⟩,?_⟩
      first | exact HB.out.trans (But.drawn q wr _) | exact HB.out.trans ((But.drawn q wr _).trans (But.drawn q _ _))
    · have hstep:((l.drop i).take (j+1-i)).all p=true:=by
       rw [show j+1-i=(j-i)+1 by omega]
       exact all_step (f:=p) HA.out hc2 hp
      have HST:=hid hstep
      rw [hp] at GC
      clear hp hc hc2 hdd hstep
      go_wp2
      go_quiet ((go_at_fn g;exact drawn_same fun W hW=>GC.out W))
      go_wp2
      go_roundg (l.length-(j+1))
      case measure=>omega
      case rel=>exact ⟨j+1,by omega,by omega,Nat.le_refl _,hid (Pr.to (w:=wr.drewN nq) HT.out (j+1)),hid ((HB.out.trans (But.drawn q wr nq)).trans (But.set q _ 1 _)),HST⟩
  · obtain rfl:j=l.length:=by omega
    have HTW:=hid (takeWhile_at p (l.drop i) (l.length-i) (by rw [List.length_drop];omega) HA.out (fun c' hc'=>by rw [List.getElem?_drop,List.getElem?_eq_none (by omega)] at hc';cases hc'))
    have HDD:=hid hdd
    have hjb:decide ((l.length:Int)<(l.length:Int))=false:=decide_eq_false (by omega)
    clear hdd
    go_wp2
    go_quiet (fail)
    go_wp2
    go_quiet (fail)
    go_wp2
    go_ret
    refine ⟨by rw [HTW.out.1];rfl,⟨l.length,Nat.le_refl _,by rw [HTW.out.2,HDD.out],HT.out⟩,?_⟩
    first | exact HB.out.trans (But.drawn q wr _) | exact HB.out.trans ((But.drawn q wr _).trans (But.drawn q _ _))
def shortV (r:Option UInt8):Value:=match r with
 | some d=>.tuple #[.int .i32 (d.toNat:Nat),.bool true]
 | none=>.tuple #[.int .i32 0,.bool false]
theorem letter_none {c:UInt8} (h:c≠34∧c≠92∧c≠110∧c≠114∧c≠116∧c≠98∧c≠102∧c≠39):Tm.letter c=none:=by
 obtain ⟨h1,h2,h3,h4,h5,h6,h7,h8⟩:=h
 unfold Tm.letter
 simp only [if_neg h1,if_neg h2,if_neg h3,if_neg h4,if_neg h5,if_neg h6,if_neg h7,if_neg h8]
theorem pshort_any (c:UInt8) (w:World):Calls Tryz.prog 252 #[.int .u8 (c.toNat:Nat)] w fun e w'=>e=.returned (shortV (Tm.letter c))∧w'=w:=by
 by_cases h:c=34∨c=92∨c=110∨c=114∨c=116∨c=98∨c=102∨c=39
 · rcases h with rfl | rfl | rfl | rfl | rfl | rfl | rfl | rfl
   all_goals
    go_enter Tryz.func252,Tryz.ntmps252
    go_wp2
    go_ret2
    exact ⟨rfl,rfl⟩
 · have hn:c≠34∧c≠92∧c≠110∧c≠114∧c≠116∧c≠98∧c≠102∧c≠39:=by
    simp only [not_or] at h;exact h
   rw [letter_none hn]
   have ne:∀ k:UInt8,c≠k→((c.toNat:Int)==(k.toNat:Int))=false:=fun k hk=>beq_eq_false_iff_ne.2 (fun e=>hk (UInt8.toNat_inj.1 (by omega)))
   have b1:((c.toNat:Int)==34)=false:=ne 34 hn.1
   have b2:((c.toNat:Int)==92)=false:=ne 92 hn.2.1
   have b3:((c.toNat:Int)==110)=false:=ne 110 hn.2.2.1
   have b4:((c.toNat:Int)==114)=false:=ne 114 hn.2.2.2.1
   have b5:((c.toNat:Int)==116)=false:=ne 116 hn.2.2.2.2.1
   have b6:((c.toNat:Int)==98)=false:=ne 98 hn.2.2.2.2.2.1
   have b7:((c.toNat:Int)==102)=false:=ne 102 hn.2.2.2.2.2.2.1
   have b8:((c.toNat:Int)==39)=false:=ne 39 hn.2.2.2.2.2.2.2
   clear ne hn h
   go_enter Tryz.func252,Tryz.ntmps252
   go_wp2
   go_ret2
   exact ⟨rfl,rfl⟩
end Go.Proofs.YtjaebndajhppgaaGreatDoor
