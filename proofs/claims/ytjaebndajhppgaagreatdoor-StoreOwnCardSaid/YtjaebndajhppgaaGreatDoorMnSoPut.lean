/-SoPut-/
import Derived.Test.YtjaebndajhppgaaGreatDoorMnGTri
import Derived.Test.YtjaebndajhppgaaGreatDoorMnSoClone
import Derived.Test.YtjaebndajhppgaaGreatDoorMnGPut
set_option linter.unusedVariables false
set_option linter.unusedSimpArgs false
set_option maxRecDepth 100000
set_option maxHeartbeats 8000000
namespace Go.Proofs.YtjaebndajhppgaaGreatDoor.Tm
theorem so_lineS_len {t:TT} (h:isTri t=true):(lineS t).length≤800:=by
 obtain ⟨_,_,a1,a2,a3⟩:=isTri_parts h
 have b1:=(show_len a1).1
 have b2:=(show_len a2).1
 have b3:=(show_len a3).1
 unfold lineS
 simp only [List.length_append,List.length_cons,List.length_nil]
 omega
theorem so_printL_len:∀ {L:List TT},(∀ t∈L,isTri t=true)→(printL L).length≤801*L.length
 | [],_=>by simp [printL]
 | t::L,h=>by
  have h1:=so_lineS_len (h t (by simp))
  have h2:=so_printL_len (L:=L) (fun s hs=>h s (by simp [hs]))
  rw [printL_cons]
  simp only [List.length_append,List.length_cons]
  omega
end Go.Proofs.YtjaebndajhppgaaGreatDoor.Tm
namespace Go.Proofs.YtjaebndajhppgaaGreatDoor
open Go.ChangeShapes Go.WideShapes Go.ChangeAt Go.RowKit
theorem putT_split {L:List T3} {t:T3} {i:Nat} (hi:i≤L.length) (hlo:∀ j (h:j<L.length),j<i→So.cT L[j] t<0) (hhi:∀ h:i<L.length,¬ So.cT L[i] t<0) :
  (L.takeWhile fun a=>decide (So.cT a t<0))=L.take i∧(L.dropWhile fun a=>decide (So.cT a t<0))=L.drop i:=by
 have h1:∀ d∈L.take i,decide (So.cT d t<0)=true:=fun d hd=>by
  obtain ⟨j,hj,rfl⟩:=List.getElem_of_mem hd
  rw [List.length_take] at hj
  rw [List.getElem_take]
  exact decide_eq_true (hlo j (by omega) (by omega))
 have e:=List.take_append_drop i L
 rcases Nat.lt_or_ge i L.length with h | h
 · have hd:L.drop i=L[i]::L.drop (i+1):=List.drop_eq_getElem_cons h
   have h2:=takeWhile_gen (p:=fun a=>decide (So.cT a t<0)) (l:=L.take i) L[i] (L.drop (i+1)) h1 (decide_eq_false (hhi h))
   rw [←hd,e] at h2
   exact h2
 · have hd:L.drop i=[]:=List.drop_eq_nil_of_le h
   have ht:L.take i=L:=List.take_of_length_le h
   rw [ht] at h1
   rw [hd,ht]
   exact takeWhile_whole (p:=fun a=>decide (So.cT a t<0)) h1
theorem putT_there {L:List T3} {t:T3} {i:Nat} (hi:i<L.length) (hlo:∀ j (h:j<L.length),j<i→So.cT L[j] t<0) (h0:L[i]=t):So.put So.cT L t=L:=by
 obtain ⟨_,h2⟩:=putT_split (Nat.le_of_lt hi) hlo (fun _=>by rw [h0];have:=So.ordT.self t;omega)
 unfold So.put
 rw [h2,List.drop_eq_getElem_cons hi,if_pos (by rw [h0];rfl)]
theorem putT_new {L:List T3} {t:T3} {i:Nat} (hi:i≤L.length) (hlo:∀ j (h:j<L.length),j<i→So.cT L[j] t<0) (hhi:∀ h:i<L.length,¬ So.cT L[i] t<0∧L[i]≠t):So.put So.cT L t=L.take i++t::L.drop i:=by
 obtain ⟨h1,h2⟩:=putT_split hi hlo (fun h=>(hhi h).1)
 unfold So.put
 rw [h1,h2,if_neg]
 intro h
 rcases Nat.lt_or_ge i L.length with h3 | h3
 · rw [List.drop_eq_getElem_cons h3,List.head?_cons] at h
   exact (hhi h3).2 (Option.some.inj h)
 · rw [List.drop_eq_nil_of_le h3] at h
   exact absurd h (by simp)
theorem TermsAt.front {W:World} {a:Option Addr} {n cap:Nat} {L:List T3} (h:TermsAt W (.slice a n cap) L) (k:Nat) (hk:k≤n):TermsAt W (.slice a k cap) (L.take k):=by
 obtain ⟨a',cap',e,h1,h2,h3,h4⟩:=h
 simp only [Value.slice.injEq] at e
 obtain ⟨rfl,rfl,rfl⟩:=e
 have hl:(L.take k).length=k:=by rw [List.length_take];omega
 refine ⟨a,cap,by rw [hl],by omega,h2,h3,?_⟩
 rcases h4 with h4 | ⟨b,off,e,h4⟩
 · exact .inl (by omega)
 · exact .inr ⟨b,off,e,fun i hi c hc=>by rw [List.getElem_take];exact h4 i (by omega) c hc⟩
theorem TermsAt.back {W:World} {b off n cap:Nat} {L:List T3} (h:TermsAt W (.slice (some ⟨b,off,none⟩) n cap) L) (k:Nat) (hk:k≤n):TermsAt W (.slice (some ⟨b,off+k*3,none⟩) (n-k) (cap-k)) (L.drop k):=by
 obtain ⟨a',cap',e,h1,h2,h3,h4⟩:=h
 simp only [Value.slice.injEq] at e
 obtain ⟨rfl,rfl,rfl⟩:=e
 have hl:(L.drop k).length=L.length-k:=List.length_drop ..
 refine ⟨_,cap-k,by rw [hl],by omega,by omega,(fun h=>by cases h),?_⟩
 rcases h4 with h4 | ⟨b',off',e,h4⟩
 · exact .inl (by omega)
 · cases e
   exact .inr ⟨b,off+k*3,rfl,fun i hi c hc=>by
    rw [List.getElem_drop,←h4 (k+i) (by omega) c hc]
    congr 2
    omega⟩
theorem terms_src {W:World} {a:Option Addr} {m c:Nat} {l:List T3} (h:TermsAt W (.slice a m c) l):m=l.length∧(a=none→m=0∧c=0)∧∀ ad,a=some ad→∀ j u,(rowT l)[j]?=some u→W.cell? (ad.add j)=some u:=by
 obtain ⟨a',c',e,h1,h2,h3,h4⟩:=h
 simp only [Value.slice.injEq] at e
 obtain ⟨rfl,rfl,rfl⟩:=e
 refine ⟨rfl,fun h=>⟨by have:=h3 h;omega,h3 h⟩,fun ad had j u hu=>?_⟩
 have hj:j<l.length*3:=by
  have:=(List.getElem?_eq_some_iff.1 hu).1
  rwa [rowT_len] at this
 rcases h4 with h4 | ⟨b,off,hb,hc⟩
 · omega
 · rw [hb] at had
   cases had
   rw [add_cell rfl]
   exact rowT_src hc j u hu
theorem rcmp_T (p q:T3) (hp:So.isT p) (hq:So.isT q) (W:World):Calls Tryz.prog 31 #[tmv p,tmv q] W fun e w'=>e=.returned (.int .i64 (So.cT p q))∧Below W.heap.size W w':=by
 obtain ⟨a1,a2,a3,a4⟩:=vt_len ⟨p,hp⟩
 obtain ⟨b1,b2,b3,b4⟩:=vt_len ⟨q,hq⟩
 exact rcmp_any p.1 q.1 p.2.1 p.2.2 q.2.1 q.2.2 W ⟨a3,a4⟩ ⟨b3,b4⟩ a1 a2 b1 b2
theorem num_none {E:List T3} {t:T3} (h:∀ j (hj:j<E.length),E[j]≠t):So.num E t=0:=So.num_not fun hm=>by
 obtain ⟨j,hj,e⟩:=List.getElem_of_mem hm
 exact h j hj e
theorem rid_any (p:Nat) (E:List T3) (hnd:E.Nodup) (hn:E.length≤100000) (t:T3) (w:World) (ve:Value) (h1:w.cell? ⟨p,1,none⟩=some ve) (hE:TermsAt w ve E) :
  Calls Tryz.prog 65 #[.pointer (some ⟨p,0,none⟩),tmv t] w fun e w'=>e=.returned (.int .i64 (So.num E t:Nat))∧Below w.heap.size w w':=by
 obtain ⟨a,cap,rfl,hc1,hc2,hc3⟩:=hE.open
 have HT:=hid hE
 have HND:=hid hnd
 obtain ⟨n,hn0⟩:∃ n,n=E.length:=⟨_,rfl⟩
 rw [←hn0] at HT h1 hn
 have HN:=hid hn0
 have HP:=hid h1
 clear hE hnd hc1 hc2 hc3 hn0 h1
 go_enter Tryz.func65,Tryz.ntmps65
 go_upto_region 1 with fail
 obtain ⟨k,tt,xx⟩:=t
 obtain ⟨w0,hw0⟩:∃ w0,w0=w.alloc (.cells #[.int .i64 (k:Nat),str tt,str xx] 61):=⟨_,rfl⟩
 have HB0:=hid (show Below w.heap.size w w0 by rw [hw0];exact (Below.refl _ _).alloc (Nat.le_refl _) _)
 have HX0:=hid (show Blk w0 w.heap.size [.int .i64 (k:Nat),str tt,str xx] 61 by rw [hw0];exact Blk.new' rfl rfl)
 show Code.wp _ _ _ _ (w.alloc (.cells #[.int .i64 (k:Nat),str tt,str xx] 61))
 rw [←hw0]
 clear hw0
 have HP0:=hid (below_keep HB0.out HP.out)
 have HT0:=hid (HT.out.keep HB0.out)
 have p1:=HP0.out
 have x0:=HX0.out.cell (i:=0) rfl
 have x1:=HX0.out.cell (i:=1) rfl
 have x2:=HX0.out.cell (i:=2) rfl
 go_wp2
 go_loopg [5] n (fun gk s5 wr=>∃ i q:Nat,s5=.int .i64 i∧i≤n∧n-i≤gk∧wr=w0.drewN q∧Hid (∀ j (hj:j<E.length),j<i→E[j]≠(k,tt,xx)))
 case atStart=>exact ⟨0,0,by go_num,Nat.zero_le _,Nat.le_refl _,rfl,hid (fun j hj h=>absurd h (Nat.not_lt_zero _))⟩
 case round=>
  obtain ⟨i,q,rfl,hin,hg,rfl,HLO⟩:=hrel
  by_cases hlt:i<n
  · have hltz:(i:Int)<(n:Int):=by omega
    have hiE:i<E.length:=by rw [←HN.out];exact hlt
    obtain ⟨b,off,hab,hrow⟩:=HT0.out.get hiE
    subst hab
    have c0:=hrow i hiE 0 (by omega)
    have c1:=hrow i hiE 1 (by omega)
    have c2:=hrow i hiE 2 (by omega)
    obtain ⟨u,hu⟩:∃ u,u=E[i]:=⟨_,rfl⟩
    rw [←hu] at c0 c1 c2
    have HU:=hid hu
    have E0:=eq_tm u (k,tt,xx)
    have HNUM:=hid (So.num_at HND.out hiE)
    rw [←hu] at HNUM
    obtain ⟨m,u1,u2⟩:=u
    simp only [tm3,List.getElem?_cons_zero,List.getElem?_cons_succ,Nat.add_zero] at c0 c1 c2 E0
    clear hu hrow
    by_cases he:((m,u1,u2):T3)=(k,tt,xx)
    · have E4:=fun W=>(E0 W).trans (by rw [decide_eq_true he])
      rw [he] at HNUM
      clear E0 he
      go_wp2
      go_region
      go_wp2
      go_ret
      exact ⟨by rw [HNUM.out];rfl,below_drawn HB0.out (q+1)⟩
    · have E4:=fun W=>(E0 W).trans (by rw [decide_eq_false he])
      have HE:=hid he
      clear E0 he HNUM
      go_wp2
      go_region
      go_wp2
      go_roundg (n-(i+1))
      case measure=>omega
      case rel=>exact ⟨i+1,q+1,by go_num,by omega,by omega,rfl,fun j hj h=>by
       rcases Nat.lt_or_ge j i with h2 | h2
       · exact HLO.out j hj h2
       · obtain rfl:j=i:=by omega
         rw [←HU.out];exact HE.out⟩
  · obtain rfl:i=n:=by omega
    have hltz:¬ (i:Int)<(i:Int):=by omega
    have HNUM:=hid (show So.num E (k,tt,xx)=0 from num_none fun j hj=>HLO.out j hj (by rw [HN.out];exact hj))
    go_wp2
    go_ret
    exact ⟨by rw [HNUM.out];rfl,below_drawn HB0.out q⟩
end Go.Proofs.YtjaebndajhppgaaGreatDoor
namespace Go.Proofs.YtjaebndajhppgaaGreatDoor
open Go.ChangeShapes Go.WideShapes Go.ChangeAt Go.RowKit
theorem terms_ownR {w:World} {B:Nat} {v:Value} {l:List T3} (h:w.ownsRow B 61 3 v l.length (rowT l)):TermsAt w v l:=by
 have h0:=h
 rcases h.2 with ⟨rfl,h2⟩ | ⟨g,cp,cur,rfl,hg,hh,hcp,hcm,_⟩
 · rw [List.eq_nil_of_length_eq_zero h2];exact TermsAt.nil w
 · exact terms_own h0 hcp hcm
theorem terms_freshR {w:World} {B:Nat} {v:Value} {l:List T3} (h:w.ownsRow B 61 3 v l.length (rowT l)):Fresh B w (fun W=>TermsAt W v l):=
 fun w'' hw=>terms_ownR (ownsRow_fresh h hw)
theorem eq_tm4 (a b:T3) (w:World):(binOp .eql 61 (.agg #[.int .i64 (a.1:Nat),str a.2.1,str a.2.2]) (.agg #[.int .i64 (b.1:Nat),str b.2.1,str b.2.2])).run Tryz.prog w=.ok (.bool (decide (a=b))) w:=eq_tm a b w
theorem blk_grownT {W w1:World} {q:Nat} {A:List Value} {t:TypeId} {row:Option Nat} (h:Blk W q A t) (hg:W.grownBy w1 row) (hne:row≠some q):Blk w1 q A t:=by
 have hlt:=h.lt
 unfold Blk at h ⊢
 rw [hg.block q hlt (fun e=>hne e.symm)];exact h
theorem blk_srcT {W:World} {b:Nat} {A:List Value} {t:TypeId} (h:Blk W b A t):∀ ad,some (⟨b,0,none⟩:Addr)=some ad→∀ j u,A[j]?=some u→W.cell? (ad.add j)=some u:=by
 intro ad had j u hu
 cases had
 rw [add_cell rfl,Nat.zero_add];exact h.cell hu
theorem made_ownT (W:World) (B:Nat) (hB:B≤W.heap.size):(W.alloc (.cells #[] 61)).ownsRow B 61 3 (.slice (some ⟨W.heap.size,0,none⟩) 0 0) 0 []:=by
 have h:=World.ownsRow_made W (#[]:Array Value) 0 (Nat.le_refl _) (by unfold maxLen;omega) rfl (e:=61) (size:=3)
 obtain ⟨h1,h2⟩:=h
 refine ⟨h1,?_⟩
 rcases h2 with h2 | ⟨g,cap,cur,e,hg,rest⟩
 · exact .inl h2
 · exact .inr ⟨g,cap,cur,e,by omega,rest⟩
theorem made_own2T (W:World) (B:Nat) (o:Obj) (hB:B≤W.heap.size):((W.drew.alloc o).alloc (.cells #[] 61)).ownsRow B 61 3 (.slice (some ⟨W.heap.size+1,0,none⟩) 0 0) 0 []:=by
 have h:=made_ownT (W.drew.alloc o) B (by simp;show B≤W.heap.size+1;omega)
 have e:(W.drew.alloc o).heap.size=W.heap.size+1:=by simp
 rw [e] at h;exact h
theorem blk_new1T (W:World) (A:List Value):Blk (W.drew.alloc (.cells A.toArray 61)) W.heap.size A 61:=Blk.new W.drew A 61
theorem blk_new2T (W:World) (o:Obj) (A:List Value) (t:TypeId):Blk ((W.drew.alloc o).alloc (.cells A.toArray t)) (W.heap.size+1) A t:=by
 have h:=Blk.new (W.drew.alloc o) A t
 have e:(W.drew.alloc o).heap.size=W.heap.size+1:=by simp
 rw [e] at h;exact h
theorem put_finT {L:List T3} {t:T3} {i N B:Nat} {w3:World} {v3:Value} (h:w3.ownsRow B 61 3 v3 N ((([]++rowT (L.take i))++(tm3 t))++rowT (L.drop i))) (hN:N=(L.take i++t::L.drop i).length):Fresh B w3 (fun W=>TermsAt W v3 (L.take i++t::L.drop i)):=by
 subst hN
 refine terms_freshR (B:=B) ?_
 rw [rowT_app,show rowT (t::L.drop i)=(tm3 t)++rowT (L.drop i) from rfl,←List.append_assoc]
 exact h
theorem rput_anyT (L:List T3) (hl:∀ t∈L,So.isT t) (hn:L.length≤100000) (t:T3) (ht:So.isT t) (w:World) (v:Value) (hv:TermsAt w v L) :
  Calls Tryz.prog 64 #[v,tmv t] w fun e w'=>∃ v',e=.returned v'∧TermsAt w' v' (So.put So.cT L t)∧(∀ B,B≤w.heap.size→Fresh B w (fun W=>TermsAt W v L)→Fresh B w' (fun W=>TermsAt W v' (So.put So.cT L t)))∧Below w.heap.size w w':=by
 obtain ⟨a,cap,rfl,hc1,hc2,hc3⟩:=hv.open
 have HV:=hid hv
 have HL:=hid hl
 obtain ⟨n,hn0⟩:∃ n,n=L.length:=⟨_,rfl⟩
 rw [←hn0] at HV hn hc1 ⊢
 have HN:=hid hn0
 have HT:=hid ht
 have CP:=hid (fun (x:T3) (hx:So.isT x) W=>rcmp_T x t hx ht W)
 obtain ⟨n1,t1,x1⟩:=t
 have HB1:=hid (show Below w.heap.size w (w.alloc (.cells #[.int .i64 (n1:Nat),str t1,str x1] 61)) from (Below.refl _ _).alloc (Nat.le_refl _) _)
 have HU1:=hid ((show Blk (w.alloc (.cells #[.int .i64 (n1:Nat),str t1,str x1] 61)) w.heap.size [.int .i64 (n1:Nat),str t1,str x1] 61 from Blk.new' rfl rfl))
 clear hv hl ht hn0
 go_enter Tryz.func64,Tryz.ntmps64
 go_upto_region 1 with fail
 show Code.wp _ _ _ _ (w.alloc (.cells #[.int .i64 (n1:Nat),str t1,str x1] 61))
 obtain ⟨wb,hwb⟩:∃ wb,wb=w.alloc (.cells #[.int .i64 (n1:Nat),str t1,str x1] 61):=⟨_,rfl⟩
 rw [←hwb] at HB1 HU1 ⊢
 clear hwb
 go_wp2
 go_loopg [5] n (fun gk s5 wr=>∃ (i:Nat),s5=.int .i64 i∧i≤n∧n-i≤gk∧Hid (Below wb.heap.size wb wr)∧Hid (∀ j (h:j<L.length),j<i→So.cT L[j] (n1,t1,x1)<0))
 case atStart=>exact ⟨0,by go_num,Nat.zero_le _,Nat.le_refl _,Below.refl _ _,hid (fun j h h2=>absurd h2 (Nat.not_lt_zero _))⟩
 case round=>
  obtain ⟨i,rfl,hin,hg,HB,HLO⟩:=hrel
  have HUr:=hid (HU1.out.keep HB.out)
  by_cases hlt:i<n
  · have hltz:(i:Int)<(n:Int):=by omega
    have dlt:decide ((i:Int)<(n:Int))=true:=decide_eq_true hltz
    have hiL:i<L.length:=by rw [←HN.out];exact hlt
    have HTi:=hid (HL.out L[i] (List.getElem_mem hiL))
    have HVr:=hid ((HV.out.keep HB1.out).keep HB.out)
    obtain ⟨bl,off,hab,hrow⟩:=HVr.out.get (i:=i) hiL
    have HRW:=hid (hrow i hiL)
    have CPi:=hid (fun W=>CP.out L[i] HTi.out W)
    obtain ⟨r,hr⟩:∃ r,r=So.cT L[i] (n1,t1,x1):=⟨_,rfl⟩
    rw [←hr] at CPi
    have HR:=hid hr
    obtain ⟨p,hp⟩:∃ p,p=L[i]:=⟨_,rfl⟩
    rw [←hp] at HRW CPi
    have HPP:=hid hp
    clear hp hr hrow
    obtain ⟨m1,u1,y1⟩:=p
    have HAB:=hid hab
    subst hab
    have CPj:Hid (∀ W,Calls Tryz.prog 31 #[tmV (m1:Nat) u1 y1,tmV (n1:Nat) t1 x1] W fun e w'=>e=.returned (.int .i64 r)∧Below W.heap.size W w'):=CPi
    clear CPi
    have c0:=HRW.out 0 (by omega)
    have c1:=HRW.out 1 (by omega)
    have c2:=HRW.out 2 (by omega)
    simp only [tm3,List.getElem?_cons_zero,List.getElem?_cons_succ,Nat.add_zero] at c0 c1 c2
    have k0:=fun p:Later wr.heap.size wr=>p.keep c0
    have k1:=fun p:Later wr.heap.size wr=>p.keep c1
    have k2:=fun p:Later wr.heap.size wr=>p.keep c2
    have d0:=HUr.out.cell (i:=0) rfl
    have d1:=HUr.out.cell (i:=1) rfl
    have d2:=HUr.out.cell (i:=2) rfl
    have j0:=fun p:Later wr.heap.size wr=>p.keep d0
    have j1:=fun p:Later wr.heap.size wr=>p.keep d1
    have j2:=fun p:Later wr.heap.size wr=>p.keep d2
    by_cases hneg:r<0
    · have dn:decide (r<0)=true:=decide_eq_true hneg
      go_upto_region 2 with fail
      refine wp_region_later wr.heap.size (by kernel_rfl) (by kernel_rfl) ?_
      repeat (go_big_quiet_step (first | (go_at_call 31;with_reducible exact Later.call (Nat.le_refl _) (CPj.out _))))
      refine wpQuiet_nil ?_
      rintro wq ⟨q,hq⟩
      have HBq:=hid (show Below wb.heap.size wb wq by rw [hq];exact below_then HB.out q.low)
      clear hq q k0 k1 k2 j0 j1 j2
      go_wp2
      go_roundg (n-(i+1))
      case measure=>omega
      case rel=>exact ⟨i+1,by go_num,by omega,by omega,HBq.out,by
       show ∀ _,_
       intro j h hj
       rcases Nat.lt_or_ge j i with h2 | h2
       · exact HLO.out j h h2
       · obtain rfl:j=i:=by omega
         rw [←HR.out];exact hneg⟩
    · have dn:decide (r<0)=false:=decide_eq_false hneg
      go_upto_region 2 with fail
      refine wp_region_later wr.heap.size (by kernel_rfl) (by kernel_rfl) ?_
      repeat (go_big_quiet_step (first | (go_at_call 31;with_reducible exact Later.call (Nat.le_refl _) (CPj.out _))))
      refine wpQuiet_nil ?_
      clear k0 k1 k2 j0 j1 j2
      rintro wq ⟨q,hq⟩
      have HBq:=hid (show Below wb.heap.size wb wq by rw [hq];exact below_then HB.out q.low)
      have HUq:=hid (show Below wr.heap.size wr wq by rw [hq];exact q.low)
      clear hq q
      have E0:=eq_tm4 (m1,u1,y1) (n1,t1,x1)
      simp only at E0
      by_cases hz0:((m1,u1,y1):T3)=(n1,t1,x1)
      · have E4:=fun W=>(E0 W).trans (by rw [decide_eq_true hz0])
        clear E0
        have HPT:=hid (show So.put So.cT L (n1,t1,x1)=L from putT_there hiL HLO.out (HPP.out.symm.trans hz0))
        go_upto_region 4 with fail
        have k0:=fun p:Later wq.heap.size wq=>p.keep (below_keep HUq.out c0)
        have k1:=fun p:Later wq.heap.size wq=>p.keep (below_keep HUq.out c1)
        have k2:=fun p:Later wq.heap.size wq=>p.keep (below_keep HUq.out c2)
        have j0:=fun p:Later wq.heap.size wq=>p.keep (below_keep HUq.out d0)
        have j1:=fun p:Later wq.heap.size wq=>p.keep (below_keep HUq.out d1)
        have j2:=fun p:Later wq.heap.size wq=>p.keep (below_keep HUq.out d2)
        refine wp_region_later wq.heap.size (by kernel_rfl) (by kernel_rfl) ?_
        repeat (go_big_quiet_step (first | (go_at_call 31;with_reducible exact Later.call (Nat.le_refl _) (CPj.out _))))
        refine wpQuiet_nil ?_
        rintro wq2 ⟨q,hq⟩
        clear k0 k1 k2 j0 j1 j2 c0 c1 c2 d0 d1 d2
        have HBq2:=hid (show Below wb.heap.size wb wq2 by rw [hq];exact below_then HBq.out q.low)
        clear hq q
        go_wp2
        go_ret
        exact ⟨_,rfl,by rw [HPT.out];exact (HV.out.keep HB1.out).keep HBq2.out,(fun B hB hF=>by rw [HPT.out];exact hF.keep (HB1.out.trans (HBq2.out.mono HB1.out.size))),HB1.out.trans (HBq2.out.mono HB1.out.size)⟩
      · have E4:=fun W=>(E0 W).trans (by rw [decide_eq_false hz0])
        clear E0
        have HPT:=hid (show So.put So.cT L (n1,t1,x1)=L.take i++(n1,t1,x1)::L.drop i from putT_new (by rw [←HN.out];exact hin) HLO.out (fun h=>⟨by rw [←HR.out];exact hneg,fun e=>hz0 (HPP.out.trans e)⟩))
        clear hz0
        go_upto_region 4 with fail
        have k0:=fun p:Later wq.heap.size wq=>p.keep (below_keep HUq.out c0)
        have k1:=fun p:Later wq.heap.size wq=>p.keep (below_keep HUq.out c1)
        have k2:=fun p:Later wq.heap.size wq=>p.keep (below_keep HUq.out c2)
        have j0:=fun p:Later wq.heap.size wq=>p.keep (below_keep HUq.out d0)
        have j1:=fun p:Later wq.heap.size wq=>p.keep (below_keep HUq.out d1)
        have j2:=fun p:Later wq.heap.size wq=>p.keep (below_keep HUq.out d2)
        refine wp_region_later wq.heap.size (by kernel_rfl) (by kernel_rfl) ?_
        repeat (go_big_quiet_step (first | (go_at_call 31;with_reducible exact Later.call (Nat.le_refl _) (CPj.out _))))
        refine wpQuiet_nil ?_
        rintro wq2 ⟨q,hq⟩
        clear k0 k1 k2 j0 j1 j2 c0 c1 c2 d0 d1 d2
        have HB6:=hid (show Below wb.heap.size wb wq2 by rw [hq];exact below_then HBq.out q.low)
        have HU6:=hid (show Blk wq2 w.heap.size [.int .i64 (n1:Nat),str t1,str x1] 61 from HU1.out.keep HB6.out)
        have hzb:=HU1.out.lt
        clear hq q
        obtain ⟨w6,hw6⟩:∃ w6,w6=wq2:=⟨_,rfl⟩
        rw [←hw6] at HB6 HU6 ⊢
        clear hw6
        have hic:i<cap:=by omega
        have hA1:i≤cap:=by omega
        have hcne:¬ cap=i:=by omega
        have hA2:(i:Int)≤(cap:Int):=by omega
        have hA3:(n:Int)≤(cap:Int):=by omega
        have hA4:(i:Int)≤(n:Int):=by omega
        have HF1:=hid ((HV.out.front i (by omega)).keep HB1.out)
        have HFX:=hid (show TermsAt wb (.slice (some ⟨bl,off,none⟩) i cap) (L.take i) from HF1.out)
        have hlt1:(L.take i).length=i:=by rw [List.length_take,←HN.out];omega
        have NIL1:=hid (terms_src HFX.out).2.1
        have LEN1:=hid (show (rowT (L.take i)).length=i*3 by rw [rowT_len,hlt1])
        have F1:=hid (fun W (hW:Below wb.heap.size wb W)=>(terms_src (HFX.out.keep hW)).2.2)
        have HFY:=hid (show TermsAt wb (.slice (some ⟨bl,off+i*3,none⟩) (n-i) (cap-i)) (L.drop i) by exact (HV.out.back i (by omega)).keep HB1.out)
        have NIL2:=hid (terms_src HFY.out).2.1
        have LEN2:=hid (show (rowT (L.drop i)).length=(n-i)*3 by rw [rowT_len,←(terms_src HFY.out).1])
        have F2:=hid (fun W (hW:Below wb.heap.size wb W)=>(terms_src (HFY.out.keep hW)).2.2)
        have FINL:=hid (show 0+i+1+(n-i)=(L.take i++(n1,t1,x1)::L.drop i).length by have h:=(terms_src HFY.out).1;rw [List.length_append,List.length_cons,hlt1,←h] <;> omega)
        clear hlt1
        obtain ⟨iS,hi0,hzS,hszS,hbyS⟩:=info_term
        have HZ6:=HB6.out.size
        have hzb6:=HU6.out.lt
        have OA:=hid (made_ownT w6.drew wb.heap.size HZ6)
        have HA:=hid (HB6.out.drew.alloc HZ6 (.cells #[] 61))
        have UA:=hid (show Blk (w6.drew.alloc (.cells #[] 61)) w.heap.size [.int .i64 (n1:Nat),str t1,str x1] 61 from HU6.out.alloc _)
        have OC:=hid (OA.out.alloc (.cells (tm3 (n1,t1,x1)).toArray 61))
        have HC:=hid (HA.out.alloc HA.out.size (.cells (tm3 (n1,t1,x1)).toArray 61))
        have UC:=hid (UA.out.alloc (.cells (tm3 (n1,t1,x1)).toArray 61))
        have TC:=hid (show Blk ((w6.drew.alloc (.cells #[] 61)).alloc (.cells (tm3 (n1,t1,x1)).toArray 61)) (w6.heap.size+1) (tm3 (n1,t1,x1)) 61 from blk_new2T w6 _ _ _)
        have HE0:=hid (HB6.out.drew.alloc HZ6 (.cells (tm3 (n1,t1,x1)).toArray 61))
        have OE:=hid (show ((w6.drew.alloc (.cells (tm3 (n1,t1,x1)).toArray 61)).alloc (.cells #[] 61)).ownsRow wb.heap.size 61 3 (.slice (some ⟨w6.heap.size+1,0,none⟩) 0 0) 0 [] from made_own2T w6 wb.heap.size _ HZ6)
        have HE:=hid (HE0.out.alloc HE0.out.size (.cells #[] 61))
        have UE:=hid (show Blk ((w6.drew.alloc (.cells (tm3 (n1,t1,x1)).toArray 61)).alloc (.cells #[] 61)) w.heap.size [.int .i64 (n1:Nat),str t1,str x1] 61 from (HU6.out.alloc _).alloc _)
        have TE:=hid (show Blk ((w6.drew.alloc (.cells (tm3 (n1,t1,x1)).toArray 61)).alloc (.cells #[] 61)) w6.heap.size (tm3 (n1,t1,x1)) 61 from (blk_new1T w6 _).alloc _)
        have d0:=HU6.out.cell (i:=0) rfl
        have d1:=HU6.out.cell (i:=1) rfl
        have d2:=HU6.out.cell (i:=2) rfl
        go_upto_region 6 with fail
        go_region_law (first
         | (refine step_append_opt (by rfl) (.tmp 34) (.tmp 37) 62 (by rfl) wb.heap.size 61 iS _ 3 40 Tryz.underlying62 hi0 hzS hszS hbyS rfl (by decide) (.slice (some ⟨w6.heap.size,0,none⟩) 0 0) 0 [] (by rfl) OA.out (some ⟨bl,off,none⟩) i cap (rowT (L.take i)) (by rfl) NIL1.out LEN1.out (F1.out _ HA.out) (rowT_one _) ?b1 ?b2 ?b3 ?_
            case b1=>(unfold maxLen;omega)
            case b2=>omega
            case b3=>exact HA.out.size
            intro v1 w1 g1 g2 g3
            have G1:=hid g1
            have HBx1:=hid (HA.out.grown g2 HA.out.size (fun k hk=>(OA.out.lt k hk).1))
            have HUx1:=hid (blk_grownT UA.out g2 (fun e=>by have:=(OA.out.lt _ e).1;omega))
            have k0:=HUx1.out.cell (i:=0) rfl
            have k1:=HUx1.out.cell (i:=1) rfl
            have k2:=HUx1.out.cell (i:=2) rfl
            clear g1 g2 g3)
         | (refine step_append_opt (by rfl) (.tmp 34) (.tmp 37) 62 (by rfl) wb.heap.size 61 iS _ 3 40 Tryz.underlying62 hi0 hzS hszS hbyS rfl (by decide) (.slice (some ⟨w6.heap.size,0,none⟩) 0 0) 0 [] (by rfl) OC.out (some ⟨bl,off,none⟩) i cap (rowT (L.take i)) (by rfl) NIL1.out LEN1.out (F1.out _ HC.out) (rowT_one _) ?b1 ?b2 ?b3 ?_
            case b1=>(unfold maxLen;omega)
            case b2=>omega
            case b3=>exact HC.out.size
            intro v1 w1 g1 g2 g3
            have G1:=hid g1
            have HBx1:=hid (HC.out.grown g2 HC.out.size (fun k hk=>(OC.out.lt k hk).1))
            have HUx1:=hid (blk_grownT UC.out g2 (fun e=>by have:=(OC.out.lt _ e).1;omega))
            have HTC:=hid (blk_grownT TC.out g2 (fun e=>by simp [Value.ownBlock] at e))
            have k0:=HUx1.out.cell (i:=0) rfl
            have k1:=HUx1.out.cell (i:=1) rfl
            have k2:=HUx1.out.cell (i:=2) rfl
            clear g1 g2 g3)
         | (refine step_append_opt (by rfl) (.tmp 34) (.tmp 37) 62 (by rfl) wb.heap.size 61 iS _ 3 40 Tryz.underlying62 hi0 hzS hszS hbyS rfl (by decide) (.slice (some ⟨w6.heap.size+1,0,none⟩) 0 0) 0 [] (by rfl) OE.out (some ⟨bl,off,none⟩) i cap (rowT (L.take i)) (by rfl) NIL1.out LEN1.out (F1.out _ HE.out) (rowT_one _) ?b1 ?b2 ?b3 ?_
            case b1=>(unfold maxLen;omega)
            case b2=>omega
            case b3=>exact HE.out.size
            intro v1 w1 g1 g2 g3
            have G1:=hid g1
            have HBx1:=hid (HE.out.grown g2 HE.out.size (fun k hk=>(OE.out.lt k hk).1))
            have HUx1:=hid (blk_grownT UE.out g2 (fun e=>by have:=(OE.out.lt _ e).1;omega))
            have HTE:=hid (blk_grownT TE.out g2 (fun e=>by simp [Value.ownBlock] at e))
            have k0:=HUx1.out.cell (i:=0) rfl
            have k1:=HUx1.out.cell (i:=1) rfl
            have k2:=HUx1.out.cell (i:=2) rfl
            clear g1 g2 g3)
         | (refine step_append_opt (by rfl) (.tmp 38) (.tmp 40) 62 (by rfl) wb.heap.size 61 iS _ 3 40 Tryz.underlying62 hi0 hzS hszS hbyS rfl (by decide) v1 (0+i) ([]++(rowT (L.take i))) (by rfl) (G1.out.alloc _) (some ⟨w1.heap.size,0,none⟩) 1 1 (tm3 (n1,t1,x1)) (by rfl) (fun h=>by cases h) rfl (news_blk w1 (tm3 (n1,t1,x1)) 61) (tm3_one (n1,t1,x1)) ?b1 ?b2 ?b3 ?_
            case b1=>(unfold maxLen;omega)
            case b2=>omega
            case b3=>exact (HBx1.out.alloc HBx1.out.size _).size
            intro v2 w2 g1 g2 g3
            have G2:=hid g1
            have HBx2:=hid ((HBx1.out.alloc HBx1.out.size _).grown g2 (HBx1.out.alloc HBx1.out.size _).size (fun k hk=>(G1.out.lt k hk).1))
            clear g1 g2 g3)
         | (refine step_append_opt (by rfl) (.tmp 38) (.tmp 40) 62 (by rfl) wb.heap.size 61 iS _ 3 40 Tryz.underlying62 hi0 hzS hszS hbyS rfl (by decide) v1 (0+i) ([]++(rowT (L.take i))) (by rfl) G1.out (some ⟨w6.heap.size+1,0,none⟩) 1 1 (tm3 (n1,t1,x1)) (by rfl) (fun h=>by cases h) rfl (blk_srcT HTC.out) (tm3_one (n1,t1,x1)) ?b1 ?b2 ?b3 ?_
            case b1=>(unfold maxLen;omega)
            case b2=>omega
            case b3=>exact HBx1.out.size
            intro v2 w2 g1 g2 g3
            have G2:=hid g1
            have HBx2:=hid (HBx1.out.grown g2 HBx1.out.size (fun k hk=>(G1.out.lt k hk).1))
            clear g1 g2 g3)
         | (refine step_append_opt (by rfl) (.tmp 38) (.tmp 40) 62 (by rfl) wb.heap.size 61 iS _ 3 40 Tryz.underlying62 hi0 hzS hszS hbyS rfl (by decide) v1 (0+i) ([]++(rowT (L.take i))) (by rfl) G1.out (some ⟨w6.heap.size,0,none⟩) 1 1 (tm3 (n1,t1,x1)) (by rfl) (fun h=>by cases h) rfl (blk_srcT HTE.out) (tm3_one (n1,t1,x1)) ?b1 ?b2 ?b3 ?_
            case b1=>(unfold maxLen;omega)
            case b2=>omega
            case b3=>exact HBx1.out.size
            intro v2 w2 g1 g2 g3
            have G2:=hid g1
            have HBx2:=hid (HBx1.out.grown g2 HBx1.out.size (fun k hk=>(G1.out.lt k hk).1))
            clear g1 g2 g3)
         | (refine step_append_opt (by rfl) (.tmp 41) (.tmp 44) 62 (by rfl) wb.heap.size 61 iS _ 3 40 Tryz.underlying62 hi0 hzS hszS hbyS rfl (by decide) v2 (0+i+1) (([]++(rowT (L.take i)))++(tm3 (n1,t1,x1))) (by rfl) G2.out (some ⟨bl,off+i*3,none⟩) (n-i) (cap-i) (rowT (L.drop i)) (by rfl) NIL2.out LEN2.out (F2.out _ HBx2.out) (rowT_one _) ?b1 ?b2 ?b3 ?_
            case b1=>(unfold maxLen;omega)
            case b2=>omega
            case b3=>exact HBx2.out.size
            intro v3 w3 g1 g2 g3
            have G3:=hid g1
            have HBx3:=hid (HBx2.out.grown g2 HBx2.out.size (fun k hk=>(G2.out.lt k hk).1))
            clear g1 g2 g3)
         | fail)
        all_goals
         have HG3:=hid (put_finT (L:=L) (t:=(n1,t1,x1)) (i:=i) G3.out FINL.out)
         go_wp2
         go_ret
         exact ⟨v3,rfl,by rw [HPT.out];exact HG3.out.it,(fun B hB _=>by rw [HPT.out];exact HG3.out.mono (Nat.le_trans hB HB1.out.size)),HB1.out.trans (HBx3.out.mono HB1.out.size)⟩
  · obtain rfl:i=n:=by omega
    have hltz:¬ (i:Int)<(i:Int):=by omega
    have dlt:decide ((i:Int)<(i:Int))=false:=decide_eq_false hltz
    have HPT:=hid (show So.put So.cT L (n1,t1,x1)=L.take i++(n1,t1,x1)::L.drop i from putT_new (by rw [←HN.out];exact hin) HLO.out (fun h=>by have:=HN.out;omega))
    go_upto_region 2 with fail
    refine wp_region_later wr.heap.size (by kernel_rfl) (by kernel_rfl) ?_
    repeat (go_big_quiet_step (first | fail))
    refine wpQuiet_nil ?_
    rintro wq ⟨q,hq⟩
    have HBq:=hid (show Below wb.heap.size wb wq by rw [hq];exact below_then HB.out q.low)
    clear hq q
    go_upto_region 4 with fail
    refine wp_region_later wq.heap.size (by kernel_rfl) (by kernel_rfl) ?_
    repeat (go_big_quiet_step (first | fail))
    refine wpQuiet_nil ?_
    rintro wq2 ⟨q,hq⟩
    have HB6:=hid (show Below wb.heap.size wb wq2 by rw [hq];exact below_then HBq.out q.low)
    have HU6:=hid (show Blk wq2 w.heap.size [.int .i64 (n1:Nat),str t1,str x1] 61 from HU1.out.keep HB6.out)
    have hzb:=HU1.out.lt
    clear hq q
    obtain ⟨w6,hw6⟩:∃ w6,w6=wq2:=⟨_,rfl⟩
    rw [←hw6] at HB6 HU6 ⊢
    clear hw6
    have hde:L.drop i=[]:=by rw [List.drop_eq_nil_of_le (by rw [←HN.out];exact Nat.le_refl _)]
    rcases Nat.eq_zero_or_pos i with hi0' | hi0'
    · subst hi0'
      rcases a with _ | ad
      · obtain rfl:cap=0:=hc3 rfl
        have HF1:=hid ((HV.out.front 0 (by omega)).keep HB1.out)
        have HFX:=hid (show TermsAt wb (.slice none 0 0) (L.take 0) from HF1.out)
        have hlt1:(L.take 0).length=0:=by rw [List.length_take,←HN.out];omega
        have NIL1:=hid (terms_src HFX.out).2.1
        have LEN1:=hid (show (rowT (L.take 0)).length=0*3 by rw [rowT_len,hlt1])
        have F1:=hid (fun W (hW:Below wb.heap.size wb W)=>(terms_src (HFX.out.keep hW)).2.2)
        have HFY:=hid (show TermsAt wb (.slice none 0 0) (L.drop 0) by rw [hde];exact ⟨_,_,rfl,Nat.zero_le _,by omega,(fun h=>by first | rfl | cases h),.inl rfl⟩)
        have NIL2:=hid (terms_src HFY.out).2.1
        have LEN2:=hid (show (rowT (L.drop 0)).length=0*3 by rw [rowT_len,←(terms_src HFY.out).1])
        have F2:=hid (fun W (hW:Below wb.heap.size wb W)=>(terms_src (HFY.out.keep hW)).2.2)
        have FINL:=hid (show 0+0+1+0=(L.take 0++(n1,t1,x1)::L.drop 0).length by have h:=(terms_src HFY.out).1;rw [List.length_append,List.length_cons,hlt1,←h] <;> omega)
        clear hlt1
        obtain ⟨iS,hi0,hzS,hszS,hbyS⟩:=info_term
        have HZ6:=HB6.out.size
        have hzb6:=HU6.out.lt
        have OA:=hid (made_ownT w6.drew wb.heap.size HZ6)
        have HA:=hid (HB6.out.drew.alloc HZ6 (.cells #[] 61))
        have UA:=hid (show Blk (w6.drew.alloc (.cells #[] 61)) w.heap.size [.int .i64 (n1:Nat),str t1,str x1] 61 from HU6.out.alloc _)
        have OC:=hid (OA.out.alloc (.cells (tm3 (n1,t1,x1)).toArray 61))
        have HC:=hid (HA.out.alloc HA.out.size (.cells (tm3 (n1,t1,x1)).toArray 61))
        have UC:=hid (UA.out.alloc (.cells (tm3 (n1,t1,x1)).toArray 61))
        have TC:=hid (show Blk ((w6.drew.alloc (.cells #[] 61)).alloc (.cells (tm3 (n1,t1,x1)).toArray 61)) (w6.heap.size+1) (tm3 (n1,t1,x1)) 61 from blk_new2T w6 _ _ _)
        have HE0:=hid (HB6.out.drew.alloc HZ6 (.cells (tm3 (n1,t1,x1)).toArray 61))
        have OE:=hid (show ((w6.drew.alloc (.cells (tm3 (n1,t1,x1)).toArray 61)).alloc (.cells #[] 61)).ownsRow wb.heap.size 61 3 (.slice (some ⟨w6.heap.size+1,0,none⟩) 0 0) 0 [] from made_own2T w6 wb.heap.size _ HZ6)
        have HE:=hid (HE0.out.alloc HE0.out.size (.cells #[] 61))
        have UE:=hid (show Blk ((w6.drew.alloc (.cells (tm3 (n1,t1,x1)).toArray 61)).alloc (.cells #[] 61)) w.heap.size [.int .i64 (n1:Nat),str t1,str x1] 61 from (HU6.out.alloc _).alloc _)
        have TE:=hid (show Blk ((w6.drew.alloc (.cells (tm3 (n1,t1,x1)).toArray 61)).alloc (.cells #[] 61)) w6.heap.size (tm3 (n1,t1,x1)) 61 from (blk_new1T w6 _).alloc _)
        have d0:=HU6.out.cell (i:=0) rfl
        have d1:=HU6.out.cell (i:=1) rfl
        have d2:=HU6.out.cell (i:=2) rfl
        go_upto_region 6 with fail
        go_region_law (first
         | (refine step_append_opt (by rfl) (.tmp 34) (.tmp 37) 62 (by rfl) wb.heap.size 61 iS _ 3 40 Tryz.underlying62 hi0 hzS hszS hbyS rfl (by decide) (.slice (some ⟨w6.heap.size,0,none⟩) 0 0) 0 [] (by rfl) OA.out none 0 0 (rowT (L.take 0)) (by rfl) NIL1.out LEN1.out (F1.out _ HA.out) (rowT_one _) ?b1 ?b2 ?b3 ?_
            case b1=>(unfold maxLen;omega)
            case b2=>omega
            case b3=>exact HA.out.size
            intro v1 w1 g1 g2 g3
            have G1:=hid g1
            have HBx1:=hid (HA.out.grown g2 HA.out.size (fun k hk=>(OA.out.lt k hk).1))
            have HUx1:=hid (blk_grownT UA.out g2 (fun e=>by have:=(OA.out.lt _ e).1;omega))
            have k0:=HUx1.out.cell (i:=0) rfl
            have k1:=HUx1.out.cell (i:=1) rfl
            have k2:=HUx1.out.cell (i:=2) rfl
            clear g1 g2 g3)
         | (refine step_append_opt (by rfl) (.tmp 34) (.tmp 37) 62 (by rfl) wb.heap.size 61 iS _ 3 40 Tryz.underlying62 hi0 hzS hszS hbyS rfl (by decide) (.slice (some ⟨w6.heap.size,0,none⟩) 0 0) 0 [] (by rfl) OC.out none 0 0 (rowT (L.take 0)) (by rfl) NIL1.out LEN1.out (F1.out _ HC.out) (rowT_one _) ?b1 ?b2 ?b3 ?_
            case b1=>(unfold maxLen;omega)
            case b2=>omega
            case b3=>exact HC.out.size
            intro v1 w1 g1 g2 g3
            have G1:=hid g1
            have HBx1:=hid (HC.out.grown g2 HC.out.size (fun k hk=>(OC.out.lt k hk).1))
            have HUx1:=hid (blk_grownT UC.out g2 (fun e=>by have:=(OC.out.lt _ e).1;omega))
            have HTC:=hid (blk_grownT TC.out g2 (fun e=>by simp [Value.ownBlock] at e))
            have k0:=HUx1.out.cell (i:=0) rfl
            have k1:=HUx1.out.cell (i:=1) rfl
            have k2:=HUx1.out.cell (i:=2) rfl
            clear g1 g2 g3)
         | (refine step_append_opt (by rfl) (.tmp 34) (.tmp 37) 62 (by rfl) wb.heap.size 61 iS _ 3 40 Tryz.underlying62 hi0 hzS hszS hbyS rfl (by decide) (.slice (some ⟨w6.heap.size+1,0,none⟩) 0 0) 0 [] (by rfl) OE.out none 0 0 (rowT (L.take 0)) (by rfl) NIL1.out LEN1.out (F1.out _ HE.out) (rowT_one _) ?b1 ?b2 ?b3 ?_
            case b1=>(unfold maxLen;omega)
            case b2=>omega
            case b3=>exact HE.out.size
            intro v1 w1 g1 g2 g3
            have G1:=hid g1
            have HBx1:=hid (HE.out.grown g2 HE.out.size (fun k hk=>(OE.out.lt k hk).1))
            have HUx1:=hid (blk_grownT UE.out g2 (fun e=>by have:=(OE.out.lt _ e).1;omega))
            have HTE:=hid (blk_grownT TE.out g2 (fun e=>by simp [Value.ownBlock] at e))
            have k0:=HUx1.out.cell (i:=0) rfl
            have k1:=HUx1.out.cell (i:=1) rfl
            have k2:=HUx1.out.cell (i:=2) rfl
            clear g1 g2 g3)
         | (refine step_append_opt (by rfl) (.tmp 38) (.tmp 40) 62 (by rfl) wb.heap.size 61 iS _ 3 40 Tryz.underlying62 hi0 hzS hszS hbyS rfl (by decide) v1 (0+0) ([]++(rowT (L.take 0))) (by rfl) (G1.out.alloc _) (some ⟨w1.heap.size,0,none⟩) 1 1 (tm3 (n1,t1,x1)) (by rfl) (fun h=>by cases h) rfl (news_blk w1 (tm3 (n1,t1,x1)) 61) (tm3_one (n1,t1,x1)) ?b1 ?b2 ?b3 ?_
            case b1=>(unfold maxLen;omega)
            case b2=>omega
            case b3=>exact (HBx1.out.alloc HBx1.out.size _).size
            intro v2 w2 g1 g2 g3
            have G2:=hid g1
            have HBx2:=hid ((HBx1.out.alloc HBx1.out.size _).grown g2 (HBx1.out.alloc HBx1.out.size _).size (fun k hk=>(G1.out.lt k hk).1))
            clear g1 g2 g3)
         | (refine step_append_opt (by rfl) (.tmp 38) (.tmp 40) 62 (by rfl) wb.heap.size 61 iS _ 3 40 Tryz.underlying62 hi0 hzS hszS hbyS rfl (by decide) v1 (0+0) ([]++(rowT (L.take 0))) (by rfl) G1.out (some ⟨w6.heap.size+1,0,none⟩) 1 1 (tm3 (n1,t1,x1)) (by rfl) (fun h=>by cases h) rfl (blk_srcT HTC.out) (tm3_one (n1,t1,x1)) ?b1 ?b2 ?b3 ?_
            case b1=>(unfold maxLen;omega)
            case b2=>omega
            case b3=>exact HBx1.out.size
            intro v2 w2 g1 g2 g3
            have G2:=hid g1
            have HBx2:=hid (HBx1.out.grown g2 HBx1.out.size (fun k hk=>(G1.out.lt k hk).1))
            clear g1 g2 g3)
         | (refine step_append_opt (by rfl) (.tmp 38) (.tmp 40) 62 (by rfl) wb.heap.size 61 iS _ 3 40 Tryz.underlying62 hi0 hzS hszS hbyS rfl (by decide) v1 (0+0) ([]++(rowT (L.take 0))) (by rfl) G1.out (some ⟨w6.heap.size,0,none⟩) 1 1 (tm3 (n1,t1,x1)) (by rfl) (fun h=>by cases h) rfl (blk_srcT HTE.out) (tm3_one (n1,t1,x1)) ?b1 ?b2 ?b3 ?_
            case b1=>(unfold maxLen;omega)
            case b2=>omega
            case b3=>exact HBx1.out.size
            intro v2 w2 g1 g2 g3
            have G2:=hid g1
            have HBx2:=hid (HBx1.out.grown g2 HBx1.out.size (fun k hk=>(G1.out.lt k hk).1))
            clear g1 g2 g3)
         | (refine step_append_opt (by rfl) (.tmp 41) (.tmp 44) 62 (by rfl) wb.heap.size 61 iS _ 3 40 Tryz.underlying62 hi0 hzS hszS hbyS rfl (by decide) v2 (0+0+1) (([]++(rowT (L.take 0)))++(tm3 (n1,t1,x1))) (by rfl) G2.out none 0 0 (rowT (L.drop 0)) (by rfl) NIL2.out LEN2.out (F2.out _ HBx2.out) (rowT_one _) ?b1 ?b2 ?b3 ?_
            case b1=>(unfold maxLen;omega)
            case b2=>omega
            case b3=>exact HBx2.out.size
            intro v3 w3 g1 g2 g3
            have G3:=hid g1
            have HBx3:=hid (HBx2.out.grown g2 HBx2.out.size (fun k hk=>(G2.out.lt k hk).1))
            clear g1 g2 g3)
         | fail)
        all_goals
         have HG3:=hid (put_finT (L:=L) (t:=(n1,t1,x1)) (i:=0) G3.out FINL.out)
         go_wp2
         go_ret
         exact ⟨v3,rfl,by rw [HPT.out];exact HG3.out.it,(fun B hB _=>by rw [HPT.out];exact HG3.out.mono (Nat.le_trans hB HB1.out.size)),HB1.out.trans (HBx3.out.mono HB1.out.size)⟩
      ·
       have HF1:=hid ((HV.out.front 0 (by omega)).keep HB1.out)
       have HFX:=hid (show TermsAt wb (.slice (some ad) 0 cap) (L.take 0) from HF1.out)
       have hlt1:(L.take 0).length=0:=by rw [List.length_take,←HN.out];omega
       have NIL1:=hid (terms_src HFX.out).2.1
       have LEN1:=hid (show (rowT (L.take 0)).length=0*3 by rw [rowT_len,hlt1])
       have F1:=hid (fun W (hW:Below wb.heap.size wb W)=>(terms_src (HFX.out.keep hW)).2.2)
       have HFY:=hid (show TermsAt wb (.slice (some ad) 0 cap) (L.drop 0) by rw [hde];exact ⟨_,_,rfl,Nat.zero_le _,by omega,(fun h=>by first | rfl | cases h),.inl rfl⟩)
       have NIL2:=hid (terms_src HFY.out).2.1
       have LEN2:=hid (show (rowT (L.drop 0)).length=0*3 by rw [rowT_len,←(terms_src HFY.out).1])
       have F2:=hid (fun W (hW:Below wb.heap.size wb W)=>(terms_src (HFY.out.keep hW)).2.2)
       have FINL:=hid (show 0+0+1+0=(L.take 0++(n1,t1,x1)::L.drop 0).length by have h:=(terms_src HFY.out).1;rw [List.length_append,List.length_cons,hlt1,←h] <;> omega)
       clear hlt1
       obtain ⟨iS,hi0,hzS,hszS,hbyS⟩:=info_term
       have HZ6:=HB6.out.size
       have hzb6:=HU6.out.lt
       have OA:=hid (made_ownT w6.drew wb.heap.size HZ6)
       have HA:=hid (HB6.out.drew.alloc HZ6 (.cells #[] 61))
       have UA:=hid (show Blk (w6.drew.alloc (.cells #[] 61)) w.heap.size [.int .i64 (n1:Nat),str t1,str x1] 61 from HU6.out.alloc _)
       have OC:=hid (OA.out.alloc (.cells (tm3 (n1,t1,x1)).toArray 61))
       have HC:=hid (HA.out.alloc HA.out.size (.cells (tm3 (n1,t1,x1)).toArray 61))
       have UC:=hid (UA.out.alloc (.cells (tm3 (n1,t1,x1)).toArray 61))
       have TC:=hid (show Blk ((w6.drew.alloc (.cells #[] 61)).alloc (.cells (tm3 (n1,t1,x1)).toArray 61)) (w6.heap.size+1) (tm3 (n1,t1,x1)) 61 from blk_new2T w6 _ _ _)
       have HE0:=hid (HB6.out.drew.alloc HZ6 (.cells (tm3 (n1,t1,x1)).toArray 61))
       have OE:=hid (show ((w6.drew.alloc (.cells (tm3 (n1,t1,x1)).toArray 61)).alloc (.cells #[] 61)).ownsRow wb.heap.size 61 3 (.slice (some ⟨w6.heap.size+1,0,none⟩) 0 0) 0 [] from made_own2T w6 wb.heap.size _ HZ6)
       have HE:=hid (HE0.out.alloc HE0.out.size (.cells #[] 61))
       have UE:=hid (show Blk ((w6.drew.alloc (.cells (tm3 (n1,t1,x1)).toArray 61)).alloc (.cells #[] 61)) w.heap.size [.int .i64 (n1:Nat),str t1,str x1] 61 from (HU6.out.alloc _).alloc _)
       have TE:=hid (show Blk ((w6.drew.alloc (.cells (tm3 (n1,t1,x1)).toArray 61)).alloc (.cells #[] 61)) w6.heap.size (tm3 (n1,t1,x1)) 61 from (blk_new1T w6 _).alloc _)
       have d0:=HU6.out.cell (i:=0) rfl
       have d1:=HU6.out.cell (i:=1) rfl
       have d2:=HU6.out.cell (i:=2) rfl
       go_upto_region 6 with fail
       go_region_law (first
        | (refine step_append_opt (by rfl) (.tmp 34) (.tmp 37) 62 (by rfl) wb.heap.size 61 iS _ 3 40 Tryz.underlying62 hi0 hzS hszS hbyS rfl (by decide) (.slice (some ⟨w6.heap.size,0,none⟩) 0 0) 0 [] (by rfl) OA.out (some ad) 0 cap (rowT (L.take 0)) (by rfl) NIL1.out LEN1.out (F1.out _ HA.out) (rowT_one _) ?b1 ?b2 ?b3 ?_
           case b1=>(unfold maxLen;omega)
           case b2=>omega
           case b3=>exact HA.out.size
           intro v1 w1 g1 g2 g3
           have G1:=hid g1
           have HBx1:=hid (HA.out.grown g2 HA.out.size (fun k hk=>(OA.out.lt k hk).1))
           have HUx1:=hid (blk_grownT UA.out g2 (fun e=>by have:=(OA.out.lt _ e).1;omega))
           have k0:=HUx1.out.cell (i:=0) rfl
           have k1:=HUx1.out.cell (i:=1) rfl
           have k2:=HUx1.out.cell (i:=2) rfl
           clear g1 g2 g3)
        | (refine step_append_opt (by rfl) (.tmp 34) (.tmp 37) 62 (by rfl) wb.heap.size 61 iS _ 3 40 Tryz.underlying62 hi0 hzS hszS hbyS rfl (by decide) (.slice (some ⟨w6.heap.size,0,none⟩) 0 0) 0 [] (by rfl) OC.out (some ad) 0 cap (rowT (L.take 0)) (by rfl) NIL1.out LEN1.out (F1.out _ HC.out) (rowT_one _) ?b1 ?b2 ?b3 ?_
           case b1=>(unfold maxLen;omega)
           case b2=>omega
           case b3=>exact HC.out.size
           intro v1 w1 g1 g2 g3
           have G1:=hid g1
           have HBx1:=hid (HC.out.grown g2 HC.out.size (fun k hk=>(OC.out.lt k hk).1))
           have HUx1:=hid (blk_grownT UC.out g2 (fun e=>by have:=(OC.out.lt _ e).1;omega))
           have HTC:=hid (blk_grownT TC.out g2 (fun e=>by simp [Value.ownBlock] at e))
           have k0:=HUx1.out.cell (i:=0) rfl
           have k1:=HUx1.out.cell (i:=1) rfl
           have k2:=HUx1.out.cell (i:=2) rfl
           clear g1 g2 g3)
        | (refine step_append_opt (by rfl) (.tmp 34) (.tmp 37) 62 (by rfl) wb.heap.size 61 iS _ 3 40 Tryz.underlying62 hi0 hzS hszS hbyS rfl (by decide) (.slice (some ⟨w6.heap.size+1,0,none⟩) 0 0) 0 [] (by rfl) OE.out (some ad) 0 cap (rowT (L.take 0)) (by rfl) NIL1.out LEN1.out (F1.out _ HE.out) (rowT_one _) ?b1 ?b2 ?b3 ?_
           case b1=>(unfold maxLen;omega)
           case b2=>omega
           case b3=>exact HE.out.size
           intro v1 w1 g1 g2 g3
           have G1:=hid g1
           have HBx1:=hid (HE.out.grown g2 HE.out.size (fun k hk=>(OE.out.lt k hk).1))
           have HUx1:=hid (blk_grownT UE.out g2 (fun e=>by have:=(OE.out.lt _ e).1;omega))
           have HTE:=hid (blk_grownT TE.out g2 (fun e=>by simp [Value.ownBlock] at e))
           have k0:=HUx1.out.cell (i:=0) rfl
           have k1:=HUx1.out.cell (i:=1) rfl
           have k2:=HUx1.out.cell (i:=2) rfl
           clear g1 g2 g3)
        | (refine step_append_opt (by rfl) (.tmp 38) (.tmp 40) 62 (by rfl) wb.heap.size 61 iS _ 3 40 Tryz.underlying62 hi0 hzS hszS hbyS rfl (by decide) v1 (0+0) ([]++(rowT (L.take 0))) (by rfl) (G1.out.alloc _) (some ⟨w1.heap.size,0,none⟩) 1 1 (tm3 (n1,t1,x1)) (by rfl) (fun h=>by cases h) rfl (news_blk w1 (tm3 (n1,t1,x1)) 61) (tm3_one (n1,t1,x1)) ?b1 ?b2 ?b3 ?_
           case b1=>(unfold maxLen;omega)
           case b2=>omega
           case b3=>exact (HBx1.out.alloc HBx1.out.size _).size
           intro v2 w2 g1 g2 g3
           have G2:=hid g1
           have HBx2:=hid ((HBx1.out.alloc HBx1.out.size _).grown g2 (HBx1.out.alloc HBx1.out.size _).size (fun k hk=>(G1.out.lt k hk).1))
           clear g1 g2 g3)
        | (refine step_append_opt (by rfl) (.tmp 38) (.tmp 40) 62 (by rfl) wb.heap.size 61 iS _ 3 40 Tryz.underlying62 hi0 hzS hszS hbyS rfl (by decide) v1 (0+0) ([]++(rowT (L.take 0))) (by rfl) G1.out (some ⟨w6.heap.size+1,0,none⟩) 1 1 (tm3 (n1,t1,x1)) (by rfl) (fun h=>by cases h) rfl (blk_srcT HTC.out) (tm3_one (n1,t1,x1)) ?b1 ?b2 ?b3 ?_
           case b1=>(unfold maxLen;omega)
           case b2=>omega
           case b3=>exact HBx1.out.size
           intro v2 w2 g1 g2 g3
           have G2:=hid g1
           have HBx2:=hid (HBx1.out.grown g2 HBx1.out.size (fun k hk=>(G1.out.lt k hk).1))
           clear g1 g2 g3)
        | (refine step_append_opt (by rfl) (.tmp 38) (.tmp 40) 62 (by rfl) wb.heap.size 61 iS _ 3 40 Tryz.underlying62 hi0 hzS hszS hbyS rfl (by decide) v1 (0+0) ([]++(rowT (L.take 0))) (by rfl) G1.out (some ⟨w6.heap.size,0,none⟩) 1 1 (tm3 (n1,t1,x1)) (by rfl) (fun h=>by cases h) rfl (blk_srcT HTE.out) (tm3_one (n1,t1,x1)) ?b1 ?b2 ?b3 ?_
           case b1=>(unfold maxLen;omega)
           case b2=>omega
           case b3=>exact HBx1.out.size
           intro v2 w2 g1 g2 g3
           have G2:=hid g1
           have HBx2:=hid (HBx1.out.grown g2 HBx1.out.size (fun k hk=>(G1.out.lt k hk).1))
           clear g1 g2 g3)
        | (refine step_append_opt (by rfl) (.tmp 41) (.tmp 44) 62 (by rfl) wb.heap.size 61 iS _ 3 40 Tryz.underlying62 hi0 hzS hszS hbyS rfl (by decide) v2 (0+0+1) (([]++(rowT (L.take 0)))++(tm3 (n1,t1,x1))) (by rfl) G2.out (some ad) 0 cap (rowT (L.drop 0)) (by rfl) NIL2.out LEN2.out (F2.out _ HBx2.out) (rowT_one _) ?b1 ?b2 ?b3 ?_
           case b1=>(unfold maxLen;omega)
           case b2=>omega
           case b3=>exact HBx2.out.size
           intro v3 w3 g1 g2 g3
           have G3:=hid g1
           have HBx3:=hid (HBx2.out.grown g2 HBx2.out.size (fun k hk=>(G2.out.lt k hk).1))
           clear g1 g2 g3)
        | fail)
       all_goals
        have HG3:=hid (put_finT (L:=L) (t:=(n1,t1,x1)) (i:=0) G3.out FINL.out)
        go_wp2
        go_ret
        exact ⟨v3,rfl,by rw [HPT.out];exact HG3.out.it,(fun B hB _=>by rw [HPT.out];exact HG3.out.mono (Nat.le_trans hB HB1.out.size)),HB1.out.trans (HBx3.out.mono HB1.out.size)⟩
    · obtain ⟨bl,off,rfl,hrow⟩:=HV.out.get (i:=0) (by rw [←HN.out];exact hi0')
      clear hrow
      by_cases hck:cap=i
      · subst hck
        have HF1:=hid ((HV.out.front cap (by omega)).keep HB1.out)
        have HFX:=hid (show TermsAt wb (.slice (some ⟨bl,off,none⟩) cap cap) (L.take cap) from HF1.out)
        have hlt1:(L.take cap).length=cap:=by rw [List.length_take,←HN.out];omega
        have NIL1:=hid (terms_src HFX.out).2.1
        have LEN1:=hid (show (rowT (L.take cap)).length=cap*3 by rw [rowT_len,hlt1])
        have F1:=hid (fun W (hW:Below wb.heap.size wb W)=>(terms_src (HFX.out.keep hW)).2.2)
        have HFY:=hid (show TermsAt wb (.slice (some ⟨bl,off,none⟩) 0 0) (L.drop cap) by rw [hde];exact ⟨_,_,rfl,Nat.zero_le _,by omega,(fun h=>by first | rfl | cases h),.inl rfl⟩)
        have NIL2:=hid (terms_src HFY.out).2.1
        have LEN2:=hid (show (rowT (L.drop cap)).length=0*3 by rw [rowT_len,←(terms_src HFY.out).1])
        have F2:=hid (fun W (hW:Below wb.heap.size wb W)=>(terms_src (HFY.out.keep hW)).2.2)
        have FINL:=hid (show 0+cap+1+0=(L.take cap++(n1,t1,x1)::L.drop cap).length by have h:=(terms_src HFY.out).1;rw [List.length_append,List.length_cons,hlt1,←h] <;> omega)
        clear hlt1
        obtain ⟨iS,hi0,hzS,hszS,hbyS⟩:=info_term
        have HZ6:=HB6.out.size
        have hzb6:=HU6.out.lt
        have OA:=hid (made_ownT w6.drew wb.heap.size HZ6)
        have HA:=hid (HB6.out.drew.alloc HZ6 (.cells #[] 61))
        have UA:=hid (show Blk (w6.drew.alloc (.cells #[] 61)) w.heap.size [.int .i64 (n1:Nat),str t1,str x1] 61 from HU6.out.alloc _)
        have OC:=hid (OA.out.alloc (.cells (tm3 (n1,t1,x1)).toArray 61))
        have HC:=hid (HA.out.alloc HA.out.size (.cells (tm3 (n1,t1,x1)).toArray 61))
        have UC:=hid (UA.out.alloc (.cells (tm3 (n1,t1,x1)).toArray 61))
        have TC:=hid (show Blk ((w6.drew.alloc (.cells #[] 61)).alloc (.cells (tm3 (n1,t1,x1)).toArray 61)) (w6.heap.size+1) (tm3 (n1,t1,x1)) 61 from blk_new2T w6 _ _ _)
        have HE0:=hid (HB6.out.drew.alloc HZ6 (.cells (tm3 (n1,t1,x1)).toArray 61))
        have OE:=hid (show ((w6.drew.alloc (.cells (tm3 (n1,t1,x1)).toArray 61)).alloc (.cells #[] 61)).ownsRow wb.heap.size 61 3 (.slice (some ⟨w6.heap.size+1,0,none⟩) 0 0) 0 [] from made_own2T w6 wb.heap.size _ HZ6)
        have HE:=hid (HE0.out.alloc HE0.out.size (.cells #[] 61))
        have UE:=hid (show Blk ((w6.drew.alloc (.cells (tm3 (n1,t1,x1)).toArray 61)).alloc (.cells #[] 61)) w.heap.size [.int .i64 (n1:Nat),str t1,str x1] 61 from (HU6.out.alloc _).alloc _)
        have TE:=hid (show Blk ((w6.drew.alloc (.cells (tm3 (n1,t1,x1)).toArray 61)).alloc (.cells #[] 61)) w6.heap.size (tm3 (n1,t1,x1)) 61 from (blk_new1T w6 _).alloc _)
        have d0:=HU6.out.cell (i:=0) rfl
        have d1:=HU6.out.cell (i:=1) rfl
        have d2:=HU6.out.cell (i:=2) rfl
        go_upto_region 6 with fail
        go_region_law (first
         | (refine step_append_opt (by rfl) (.tmp 34) (.tmp 37) 62 (by rfl) wb.heap.size 61 iS _ 3 40 Tryz.underlying62 hi0 hzS hszS hbyS rfl (by decide) (.slice (some ⟨w6.heap.size,0,none⟩) 0 0) 0 [] (by rfl) OA.out (some ⟨bl,off,none⟩) cap cap (rowT (L.take cap)) (by rfl) NIL1.out LEN1.out (F1.out _ HA.out) (rowT_one _) ?b1 ?b2 ?b3 ?_
            case b1=>(unfold maxLen;omega)
            case b2=>omega
            case b3=>exact HA.out.size
            intro v1 w1 g1 g2 g3
            have G1:=hid g1
            have HBx1:=hid (HA.out.grown g2 HA.out.size (fun k hk=>(OA.out.lt k hk).1))
            have HUx1:=hid (blk_grownT UA.out g2 (fun e=>by have:=(OA.out.lt _ e).1;omega))
            have k0:=HUx1.out.cell (i:=0) rfl
            have k1:=HUx1.out.cell (i:=1) rfl
            have k2:=HUx1.out.cell (i:=2) rfl
            clear g1 g2 g3)
         | (refine step_append_opt (by rfl) (.tmp 34) (.tmp 37) 62 (by rfl) wb.heap.size 61 iS _ 3 40 Tryz.underlying62 hi0 hzS hszS hbyS rfl (by decide) (.slice (some ⟨w6.heap.size,0,none⟩) 0 0) 0 [] (by rfl) OC.out (some ⟨bl,off,none⟩) cap cap (rowT (L.take cap)) (by rfl) NIL1.out LEN1.out (F1.out _ HC.out) (rowT_one _) ?b1 ?b2 ?b3 ?_
            case b1=>(unfold maxLen;omega)
            case b2=>omega
            case b3=>exact HC.out.size
            intro v1 w1 g1 g2 g3
            have G1:=hid g1
            have HBx1:=hid (HC.out.grown g2 HC.out.size (fun k hk=>(OC.out.lt k hk).1))
            have HUx1:=hid (blk_grownT UC.out g2 (fun e=>by have:=(OC.out.lt _ e).1;omega))
            have HTC:=hid (blk_grownT TC.out g2 (fun e=>by simp [Value.ownBlock] at e))
            have k0:=HUx1.out.cell (i:=0) rfl
            have k1:=HUx1.out.cell (i:=1) rfl
            have k2:=HUx1.out.cell (i:=2) rfl
            clear g1 g2 g3)
         | (refine step_append_opt (by rfl) (.tmp 34) (.tmp 37) 62 (by rfl) wb.heap.size 61 iS _ 3 40 Tryz.underlying62 hi0 hzS hszS hbyS rfl (by decide) (.slice (some ⟨w6.heap.size+1,0,none⟩) 0 0) 0 [] (by rfl) OE.out (some ⟨bl,off,none⟩) cap cap (rowT (L.take cap)) (by rfl) NIL1.out LEN1.out (F1.out _ HE.out) (rowT_one _) ?b1 ?b2 ?b3 ?_
            case b1=>(unfold maxLen;omega)
            case b2=>omega
            case b3=>exact HE.out.size
            intro v1 w1 g1 g2 g3
            have G1:=hid g1
            have HBx1:=hid (HE.out.grown g2 HE.out.size (fun k hk=>(OE.out.lt k hk).1))
            have HUx1:=hid (blk_grownT UE.out g2 (fun e=>by have:=(OE.out.lt _ e).1;omega))
            have HTE:=hid (blk_grownT TE.out g2 (fun e=>by simp [Value.ownBlock] at e))
            have k0:=HUx1.out.cell (i:=0) rfl
            have k1:=HUx1.out.cell (i:=1) rfl
            have k2:=HUx1.out.cell (i:=2) rfl
            clear g1 g2 g3)
         | (refine step_append_opt (by rfl) (.tmp 38) (.tmp 40) 62 (by rfl) wb.heap.size 61 iS _ 3 40 Tryz.underlying62 hi0 hzS hszS hbyS rfl (by decide) v1 (0+cap) ([]++(rowT (L.take cap))) (by rfl) (G1.out.alloc _) (some ⟨w1.heap.size,0,none⟩) 1 1 (tm3 (n1,t1,x1)) (by rfl) (fun h=>by cases h) rfl (news_blk w1 (tm3 (n1,t1,x1)) 61) (tm3_one (n1,t1,x1)) ?b1 ?b2 ?b3 ?_
            case b1=>(unfold maxLen;omega)
            case b2=>omega
            case b3=>exact (HBx1.out.alloc HBx1.out.size _).size
            intro v2 w2 g1 g2 g3
            have G2:=hid g1
            have HBx2:=hid ((HBx1.out.alloc HBx1.out.size _).grown g2 (HBx1.out.alloc HBx1.out.size _).size (fun k hk=>(G1.out.lt k hk).1))
            clear g1 g2 g3)
         | (refine step_append_opt (by rfl) (.tmp 38) (.tmp 40) 62 (by rfl) wb.heap.size 61 iS _ 3 40 Tryz.underlying62 hi0 hzS hszS hbyS rfl (by decide) v1 (0+cap) ([]++(rowT (L.take cap))) (by rfl) G1.out (some ⟨w6.heap.size+1,0,none⟩) 1 1 (tm3 (n1,t1,x1)) (by rfl) (fun h=>by cases h) rfl (blk_srcT HTC.out) (tm3_one (n1,t1,x1)) ?b1 ?b2 ?b3 ?_
            case b1=>(unfold maxLen;omega)
            case b2=>omega
            case b3=>exact HBx1.out.size
            intro v2 w2 g1 g2 g3
            have G2:=hid g1
            have HBx2:=hid (HBx1.out.grown g2 HBx1.out.size (fun k hk=>(G1.out.lt k hk).1))
            clear g1 g2 g3)
         | (refine step_append_opt (by rfl) (.tmp 38) (.tmp 40) 62 (by rfl) wb.heap.size 61 iS _ 3 40 Tryz.underlying62 hi0 hzS hszS hbyS rfl (by decide) v1 (0+cap) ([]++(rowT (L.take cap))) (by rfl) G1.out (some ⟨w6.heap.size,0,none⟩) 1 1 (tm3 (n1,t1,x1)) (by rfl) (fun h=>by cases h) rfl (blk_srcT HTE.out) (tm3_one (n1,t1,x1)) ?b1 ?b2 ?b3 ?_
            case b1=>(unfold maxLen;omega)
            case b2=>omega
            case b3=>exact HBx1.out.size
            intro v2 w2 g1 g2 g3
            have G2:=hid g1
            have HBx2:=hid (HBx1.out.grown g2 HBx1.out.size (fun k hk=>(G1.out.lt k hk).1))
            clear g1 g2 g3)
         | (refine step_append_opt (by rfl) (.tmp 41) (.tmp 44) 62 (by rfl) wb.heap.size 61 iS _ 3 40 Tryz.underlying62 hi0 hzS hszS hbyS rfl (by decide) v2 (0+cap+1) (([]++(rowT (L.take cap)))++(tm3 (n1,t1,x1))) (by rfl) G2.out (some ⟨bl,off,none⟩) 0 0 (rowT (L.drop cap)) (by rfl) NIL2.out LEN2.out (F2.out _ HBx2.out) (rowT_one _) ?b1 ?b2 ?b3 ?_
            case b1=>(unfold maxLen;omega)
            case b2=>omega
            case b3=>exact HBx2.out.size
            intro v3 w3 g1 g2 g3
            have G3:=hid g1
            have HBx3:=hid (HBx2.out.grown g2 HBx2.out.size (fun k hk=>(G2.out.lt k hk).1))
            clear g1 g2 g3)
         | fail)
        all_goals
         have HG3:=hid (put_finT (L:=L) (t:=(n1,t1,x1)) (i:=cap) G3.out FINL.out)
         go_wp2
         go_ret
         exact ⟨v3,rfl,by rw [HPT.out];exact HG3.out.it,(fun B hB _=>by rw [HPT.out];exact HG3.out.mono (Nat.le_trans hB HB1.out.size)),HB1.out.trans (HBx3.out.mono HB1.out.size)⟩
      · have hck2:i<cap:=by omega
        have hA2:(i:Int)≤(cap:Int):=by omega
        have HF1:=hid ((HV.out.front i (by omega)).keep HB1.out)
        have HFX:=hid (show TermsAt wb (.slice (some ⟨bl,off,none⟩) i cap) (L.take i) from HF1.out)
        have hlt1:(L.take i).length=i:=by rw [List.length_take,←HN.out];omega
        have NIL1:=hid (terms_src HFX.out).2.1
        have LEN1:=hid (show (rowT (L.take i)).length=i*3 by rw [rowT_len,hlt1])
        have F1:=hid (fun W (hW:Below wb.heap.size wb W)=>(terms_src (HFX.out.keep hW)).2.2)
        have HFY:=hid (show TermsAt wb (.slice (some ⟨bl,off+i*3,none⟩) 0 (cap-i)) (L.drop i) by rw [hde];exact ⟨_,_,rfl,Nat.zero_le _,by omega,(fun h=>by first | rfl | cases h),.inl rfl⟩)
        have NIL2:=hid (terms_src HFY.out).2.1
        have LEN2:=hid (show (rowT (L.drop i)).length=0*3 by rw [rowT_len,←(terms_src HFY.out).1])
        have F2:=hid (fun W (hW:Below wb.heap.size wb W)=>(terms_src (HFY.out.keep hW)).2.2)
        have FINL:=hid (show 0+i+1+0=(L.take i++(n1,t1,x1)::L.drop i).length by have h:=(terms_src HFY.out).1;rw [List.length_append,List.length_cons,hlt1,←h] <;> omega)
        clear hlt1
        obtain ⟨iS,hi0,hzS,hszS,hbyS⟩:=info_term
        have HZ6:=HB6.out.size
        have hzb6:=HU6.out.lt
        have OA:=hid (made_ownT w6.drew wb.heap.size HZ6)
        have HA:=hid (HB6.out.drew.alloc HZ6 (.cells #[] 61))
        have UA:=hid (show Blk (w6.drew.alloc (.cells #[] 61)) w.heap.size [.int .i64 (n1:Nat),str t1,str x1] 61 from HU6.out.alloc _)
        have OC:=hid (OA.out.alloc (.cells (tm3 (n1,t1,x1)).toArray 61))
        have HC:=hid (HA.out.alloc HA.out.size (.cells (tm3 (n1,t1,x1)).toArray 61))
        have UC:=hid (UA.out.alloc (.cells (tm3 (n1,t1,x1)).toArray 61))
        have TC:=hid (show Blk ((w6.drew.alloc (.cells #[] 61)).alloc (.cells (tm3 (n1,t1,x1)).toArray 61)) (w6.heap.size+1) (tm3 (n1,t1,x1)) 61 from blk_new2T w6 _ _ _)
        have HE0:=hid (HB6.out.drew.alloc HZ6 (.cells (tm3 (n1,t1,x1)).toArray 61))
        have OE:=hid (show ((w6.drew.alloc (.cells (tm3 (n1,t1,x1)).toArray 61)).alloc (.cells #[] 61)).ownsRow wb.heap.size 61 3 (.slice (some ⟨w6.heap.size+1,0,none⟩) 0 0) 0 [] from made_own2T w6 wb.heap.size _ HZ6)
        have HE:=hid (HE0.out.alloc HE0.out.size (.cells #[] 61))
        have UE:=hid (show Blk ((w6.drew.alloc (.cells (tm3 (n1,t1,x1)).toArray 61)).alloc (.cells #[] 61)) w.heap.size [.int .i64 (n1:Nat),str t1,str x1] 61 from (HU6.out.alloc _).alloc _)
        have TE:=hid (show Blk ((w6.drew.alloc (.cells (tm3 (n1,t1,x1)).toArray 61)).alloc (.cells #[] 61)) w6.heap.size (tm3 (n1,t1,x1)) 61 from (blk_new1T w6 _).alloc _)
        have d0:=HU6.out.cell (i:=0) rfl
        have d1:=HU6.out.cell (i:=1) rfl
        have d2:=HU6.out.cell (i:=2) rfl
        go_upto_region 6 with fail
        go_region_law (first
         | (refine step_append_opt (by rfl) (.tmp 34) (.tmp 37) 62 (by rfl) wb.heap.size 61 iS _ 3 40 Tryz.underlying62 hi0 hzS hszS hbyS rfl (by decide) (.slice (some ⟨w6.heap.size,0,none⟩) 0 0) 0 [] (by rfl) OA.out (some ⟨bl,off,none⟩) i cap (rowT (L.take i)) (by rfl) NIL1.out LEN1.out (F1.out _ HA.out) (rowT_one _) ?b1 ?b2 ?b3 ?_
            case b1=>(unfold maxLen;omega)
            case b2=>omega
            case b3=>exact HA.out.size
            intro v1 w1 g1 g2 g3
            have G1:=hid g1
            have HBx1:=hid (HA.out.grown g2 HA.out.size (fun k hk=>(OA.out.lt k hk).1))
            have HUx1:=hid (blk_grownT UA.out g2 (fun e=>by have:=(OA.out.lt _ e).1;omega))
            have k0:=HUx1.out.cell (i:=0) rfl
            have k1:=HUx1.out.cell (i:=1) rfl
            have k2:=HUx1.out.cell (i:=2) rfl
            clear g1 g2 g3)
         | (refine step_append_opt (by rfl) (.tmp 34) (.tmp 37) 62 (by rfl) wb.heap.size 61 iS _ 3 40 Tryz.underlying62 hi0 hzS hszS hbyS rfl (by decide) (.slice (some ⟨w6.heap.size,0,none⟩) 0 0) 0 [] (by rfl) OC.out (some ⟨bl,off,none⟩) i cap (rowT (L.take i)) (by rfl) NIL1.out LEN1.out (F1.out _ HC.out) (rowT_one _) ?b1 ?b2 ?b3 ?_
            case b1=>(unfold maxLen;omega)
            case b2=>omega
            case b3=>exact HC.out.size
            intro v1 w1 g1 g2 g3
            have G1:=hid g1
            have HBx1:=hid (HC.out.grown g2 HC.out.size (fun k hk=>(OC.out.lt k hk).1))
            have HUx1:=hid (blk_grownT UC.out g2 (fun e=>by have:=(OC.out.lt _ e).1;omega))
            have HTC:=hid (blk_grownT TC.out g2 (fun e=>by simp [Value.ownBlock] at e))
            have k0:=HUx1.out.cell (i:=0) rfl
            have k1:=HUx1.out.cell (i:=1) rfl
            have k2:=HUx1.out.cell (i:=2) rfl
            clear g1 g2 g3)
         | (refine step_append_opt (by rfl) (.tmp 34) (.tmp 37) 62 (by rfl) wb.heap.size 61 iS _ 3 40 Tryz.underlying62 hi0 hzS hszS hbyS rfl (by decide) (.slice (some ⟨w6.heap.size+1,0,none⟩) 0 0) 0 [] (by rfl) OE.out (some ⟨bl,off,none⟩) i cap (rowT (L.take i)) (by rfl) NIL1.out LEN1.out (F1.out _ HE.out) (rowT_one _) ?b1 ?b2 ?b3 ?_
            case b1=>(unfold maxLen;omega)
            case b2=>omega
            case b3=>exact HE.out.size
            intro v1 w1 g1 g2 g3
            have G1:=hid g1
            have HBx1:=hid (HE.out.grown g2 HE.out.size (fun k hk=>(OE.out.lt k hk).1))
            have HUx1:=hid (blk_grownT UE.out g2 (fun e=>by have:=(OE.out.lt _ e).1;omega))
            have HTE:=hid (blk_grownT TE.out g2 (fun e=>by simp [Value.ownBlock] at e))
            have k0:=HUx1.out.cell (i:=0) rfl
            have k1:=HUx1.out.cell (i:=1) rfl
            have k2:=HUx1.out.cell (i:=2) rfl
            clear g1 g2 g3)
         | (refine step_append_opt (by rfl) (.tmp 38) (.tmp 40) 62 (by rfl) wb.heap.size 61 iS _ 3 40 Tryz.underlying62 hi0 hzS hszS hbyS rfl (by decide) v1 (0+i) ([]++(rowT (L.take i))) (by rfl) (G1.out.alloc _) (some ⟨w1.heap.size,0,none⟩) 1 1 (tm3 (n1,t1,x1)) (by rfl) (fun h=>by cases h) rfl (news_blk w1 (tm3 (n1,t1,x1)) 61) (tm3_one (n1,t1,x1)) ?b1 ?b2 ?b3 ?_
            case b1=>(unfold maxLen;omega)
            case b2=>omega
            case b3=>exact (HBx1.out.alloc HBx1.out.size _).size
            intro v2 w2 g1 g2 g3
            have G2:=hid g1
            have HBx2:=hid ((HBx1.out.alloc HBx1.out.size _).grown g2 (HBx1.out.alloc HBx1.out.size _).size (fun k hk=>(G1.out.lt k hk).1))
            clear g1 g2 g3)
         | (refine step_append_opt (by rfl) (.tmp 38) (.tmp 40) 62 (by rfl) wb.heap.size 61 iS _ 3 40 Tryz.underlying62 hi0 hzS hszS hbyS rfl (by decide) v1 (0+i) ([]++(rowT (L.take i))) (by rfl) G1.out (some ⟨w6.heap.size+1,0,none⟩) 1 1 (tm3 (n1,t1,x1)) (by rfl) (fun h=>by cases h) rfl (blk_srcT HTC.out) (tm3_one (n1,t1,x1)) ?b1 ?b2 ?b3 ?_
            case b1=>(unfold maxLen;omega)
            case b2=>omega
            case b3=>exact HBx1.out.size
            intro v2 w2 g1 g2 g3
            have G2:=hid g1
            have HBx2:=hid (HBx1.out.grown g2 HBx1.out.size (fun k hk=>(G1.out.lt k hk).1))
            clear g1 g2 g3)
         | (refine step_append_opt (by rfl) (.tmp 38) (.tmp 40) 62 (by rfl) wb.heap.size 61 iS _ 3 40 Tryz.underlying62 hi0 hzS hszS hbyS rfl (by decide) v1 (0+i) ([]++(rowT (L.take i))) (by rfl) G1.out (some ⟨w6.heap.size,0,none⟩) 1 1 (tm3 (n1,t1,x1)) (by rfl) (fun h=>by cases h) rfl (blk_srcT HTE.out) (tm3_one (n1,t1,x1)) ?b1 ?b2 ?b3 ?_
            case b1=>(unfold maxLen;omega)
            case b2=>omega
            case b3=>exact HBx1.out.size
            intro v2 w2 g1 g2 g3
            have G2:=hid g1
            have HBx2:=hid (HBx1.out.grown g2 HBx1.out.size (fun k hk=>(G1.out.lt k hk).1))
            clear g1 g2 g3)
         | (refine step_append_opt (by rfl) (.tmp 41) (.tmp 44) 62 (by rfl) wb.heap.size 61 iS _ 3 40 Tryz.underlying62 hi0 hzS hszS hbyS rfl (by decide) v2 (0+i+1) (([]++(rowT (L.take i)))++(tm3 (n1,t1,x1))) (by rfl) G2.out (some ⟨bl,off+i*3,none⟩) 0 (cap-i) (rowT (L.drop i)) (by rfl) NIL2.out LEN2.out (F2.out _ HBx2.out) (rowT_one _) ?b1 ?b2 ?b3 ?_
            case b1=>(unfold maxLen;omega)
            case b2=>omega
            case b3=>exact HBx2.out.size
            intro v3 w3 g1 g2 g3
            have G3:=hid g1
            have HBx3:=hid (HBx2.out.grown g2 HBx2.out.size (fun k hk=>(G2.out.lt k hk).1))
            clear g1 g2 g3)
         | fail)
        all_goals
         have HG3:=hid (put_finT (L:=L) (t:=(n1,t1,x1)) (i:=i) G3.out FINL.out)
         go_wp2
         go_ret
         exact ⟨v3,rfl,by rw [HPT.out];exact HG3.out.it,(fun B hB _=>by rw [HPT.out];exact HG3.out.mono (Nat.le_trans hB HB1.out.size)),HB1.out.trans (HBx3.out.mono HB1.out.size)⟩
end Go.Proofs.YtjaebndajhppgaaGreatDoor
