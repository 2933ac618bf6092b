/-GPut2-/
import Derived.Test.YtjaebndajhppgaaGreatDoorMnGPut
set_option linter.unusedVariables false
set_option linter.unusedSimpArgs false
set_option maxRecDepth 100000
set_option maxHeartbeats 8000000
namespace Go.Proofs.YtjaebndajhppgaaGreatDoor
open Go.ChangeShapes Go.WideShapes Go.ChangeAt Go.RowKit
theorem blk_grown {W w1:World} {q:Nat} {A:List Value} {t:TypeId} {row:Option Nat} (h:Blk W q A t) (hg:W.grownBy w1 row) (hne:row≠some q):Blk w1 q A t:=by
 have hlt:=h.lt
 unfold Blk at h ⊢
 rw [hg.block q hlt (fun e=>hne e.symm)];exact h
theorem blk_src {W:World} {b:Nat} {A:List Value} {t:TypeId} (h:Blk W b A t):∀ ad,some (⟨b,0,none⟩:Addr)=some ad→∀ j u,A[j]?=some u→W.cell? (ad.add j)=some u:=by
 intro ad had j u hu
 cases had
 rw [add_cell rfl,Nat.zero_add];exact h.cell hu
theorem made_own (W:World) (B:Nat) (hB:B≤W.heap.size):(W.alloc (.cells #[] 67)).ownsRow B 67 9 (.slice (some ⟨W.heap.size,0,none⟩) 0 0) 0 []:=by
 have h:=World.ownsRow_made W (#[]:Array Value) 0 (Nat.le_refl _) (by unfold maxLen;omega) rfl (e:=67) (size:=9)
 obtain ⟨h1,h2⟩:=h
 refine ⟨h1,?_⟩
 rcases h2 with h2 | ⟨g,cap,cur,e,hg,rest⟩
 · exact .inl h2
 · exact .inr ⟨g,cap,cur,e,by omega,rest⟩
theorem made_own2 (W:World) (B:Nat) (o:Obj) (hB:B≤W.heap.size):((W.drew.alloc o).alloc (.cells #[] 67)).ownsRow B 67 9 (.slice (some ⟨W.heap.size+1,0,none⟩) 0 0) 0 []:=by
 have h:=made_own (W.drew.alloc o) B (by simp;show B≤W.heap.size+1;omega)
 have e:(W.drew.alloc o).heap.size=W.heap.size+1:=by simp
 rw [e] at h;exact h
theorem blk_new1 (W:World) (A:List Value):Blk (W.drew.alloc (.cells A.toArray 67)) W.heap.size A 67:=Blk.new W.drew A 67
theorem blk_new2 (W:World) (o:Obj) (A:List Value) (t:TypeId):Blk ((W.drew.alloc o).alloc (.cells A.toArray t)) (W.heap.size+1) A t:=by
 have h:=Blk.new (W.drew.alloc o) A t
 have e:(W.drew.alloc o).heap.size=W.heap.size+1:=by simp
 rw [e] at h;exact h
theorem put_fin {L:List TR} {t:TR} {i N B:Nat} {w3:World} {v3:Value} (h:w3.ownsRow B 67 9 v3 N ((([]++rowCells (L.take i))++(ofT t).cells)++rowCells (L.drop i))) (hN:N=(L.take i++t::L.drop i).length):TrisAt w3 v3 ((L.take i++t::L.drop i).map ofT):=by
 subst hN
 refine tris_own (B:=B) ?_
 rw [rowCells_app,show rowCells (t::L.drop i)=(ofT t).cells++rowCells (L.drop i) from rfl,←List.append_assoc]
 exact h
theorem rput_any (L:List TR) (hl:∀ t∈L,Tm.isTri t=true) (hn:L.length≤100000) (t:TR) (ht:Tm.isTri t=true) (w:World) (v:Value) (hv:TrisAt w v (L.map ofT)) :
  Calls Tryz.prog 66 #[v,trV t] w fun e w'=>∃ v',e=.returned v'∧TrisAt w' v' ((Tm.put L t).map ofT)∧Below w.heap.size w w':=by
 obtain ⟨a,cap,rfl,hc1,hc2,hc3⟩:=hv.open
 have HV:=hid hv
 have HL:=hid hl
 rw [List.length_map] at HV hc1 ⊢
 obtain ⟨n,hn0⟩:∃ n,n=L.length:=⟨_,rfl⟩
 rw [←hn0] at HV hn hc1 ⊢
 have HN:=hid hn0
 have HT:=hid ht
 have CP:=hid (fun (x:TR) (hx:Tm.isTri x=true) W=>lcmp_tri x t hx ht W)
 obtain ⟨⟨n1,t1,x1⟩,⟨n2,t2,x2⟩,n3,t3,x3⟩:=t
 have HB1:=hid (show Below w.heap.size w (new9 w n1 t1 x1 n2 t2 x2 n3 t3 x3) from (Below.refl _ _).alloc (Nat.le_refl _) _)
 have HU1:=hid (new9_new w n1 t1 x1 n2 t2 x2 n3 t3 x3)
 clear hv hl ht hn0
 go_enter Tryz.func66,Tryz.ntmps66
 go_upto_region 1 with fail
 show Code.wp _ _ _ _ (new9 w n1 t1 x1 n2 t2 x2 n3 t3 x3)
 obtain ⟨wb,hwb⟩:∃ wb,wb=new9 w n1 t1 x1 n2 t2 x2 n3 t3 x3:=⟨_,rfl⟩
 rw [←hwb] at HB1 HU1 ⊢
 clear hwb
 go_wp2
 go_loopg [5] n (fun gk s5 wr=>∃ (i:Nat),s5=.int .i64 i∧i≤n∧n-i≤gk∧Hid (Below wb.heap.size wb wr)∧Hid (∀ j (h:j<L.length),j<i→Tm.cmpT L[j] ((n1,t1,x1),(n2,t2,x2),n3,t3,x3)<0))
 case atStart=>exact ⟨0,by go_num,Nat.zero_le _,Nat.le_refl _,Below.refl _ _,hid (fun j h h2=>absurd h2 (Nat.not_lt_zero _))⟩
 case round=>
  obtain ⟨i,rfl,hin,hg,HB,HLO⟩:=hrel
  have HUr:=hid (HU1.out.keep HB.out)
  by_cases hlt:i<n
  · have hltz:(i:Int)<(n:Int):=by omega
    have dlt:decide ((i:Int)<(n:Int))=true:=decide_eq_true hltz
    have hiL:i<L.length:=by rw [←HN.out];exact hlt
    have HTi:=hid (HL.out L[i] (List.getElem_mem hiL))
    have HVr:=hid ((HV.out.keep HB1.out).keep HB.out)
    obtain ⟨bl,off,hab,hrow⟩:=HVr.out.get (i:=i) (by rw [List.length_map];exact hiL)
    have HRW:=hid (hrow i (by rw [List.length_map];exact hiL))
    rw [List.getElem_map] at HRW
    have CPi:=hid (fun W=>CP.out L[i] HTi.out W)
    obtain ⟨r,hr⟩:∃ r,r=Tm.cmpT L[i] ((n1,t1,x1),(n2,t2,x2),n3,t3,x3):=⟨_,rfl⟩
    rw [←hr] at CPi
    have HR:=hid hr
    obtain ⟨p,hp⟩:∃ p,p=L[i]:=⟨_,rfl⟩
    rw [←hp] at HRW CPi
    clear hp hr hrow
    obtain ⟨⟨m1,u1,y1⟩,⟨m2,u2,y2⟩,m3,u3,y3⟩:=p
    have HAB:=hid hab
    subst hab
    have CPj:Hid (∀ W,Calls Tryz.prog 108 #[triV (m1:Nat) u1 y1 (m2:Nat) u2 y2 (m3:Nat) u3 y3,triV (n1:Nat) t1 x1 (n2:Nat) t2 x2 (n3:Nat) t3 x3] W fun e w'=>e=.returned (.int .i64 r)∧Below W.heap.size W w'):=CPi
    clear CPi
    have c0:=HRW.out 0 (by omega)
    have c1:=HRW.out 1 (by omega)
    have c2:=HRW.out 2 (by omega)
    have c3:=HRW.out 3 (by omega)
    have c4:=HRW.out 4 (by omega)
    have c5:=HRW.out 5 (by omega)
    have c6:=HRW.out 6 (by omega)
    have c7:=HRW.out 7 (by omega)
    have c8:=HRW.out 8 (by omega)
    simp only [ofT,Tri.cells,List.getElem?_cons_zero,List.getElem?_cons_succ,Nat.add_zero] at c0 c1 c2 c3 c4 c5 c6 c7 c8
    have k0:=fun p:Later wr.heap.size wr=>p.keep c0
    have k1:=fun p:Later wr.heap.size wr=>p.keep c1
    have k2:=fun p:Later wr.heap.size wr=>p.keep c2
    have k3:=fun p:Later wr.heap.size wr=>p.keep c3
    have k4:=fun p:Later wr.heap.size wr=>p.keep c4
    have k5:=fun p:Later wr.heap.size wr=>p.keep c5
    have k6:=fun p:Later wr.heap.size wr=>p.keep c6
    have k7:=fun p:Later wr.heap.size wr=>p.keep c7
    have k8:=fun p:Later wr.heap.size wr=>p.keep c8
    have d0:=HUr.out.cell (i:=0) rfl
    have d1:=HUr.out.cell (i:=1) rfl
    have d2:=HUr.out.cell (i:=2) rfl
    have d3:=HUr.out.cell (i:=3) rfl
    have d4:=HUr.out.cell (i:=4) rfl
    have d5:=HUr.out.cell (i:=5) rfl
    have d6:=HUr.out.cell (i:=6) rfl
    have d7:=HUr.out.cell (i:=7) rfl
    have d8:=HUr.out.cell (i:=8) rfl
    have j0:=fun p:Later wr.heap.size wr=>p.keep d0
    have j1:=fun p:Later wr.heap.size wr=>p.keep d1
    have j2:=fun p:Later wr.heap.size wr=>p.keep d2
    have j3:=fun p:Later wr.heap.size wr=>p.keep d3
    have j4:=fun p:Later wr.heap.size wr=>p.keep d4
    have j5:=fun p:Later wr.heap.size wr=>p.keep d5
    have j6:=fun p:Later wr.heap.size wr=>p.keep d6
    have j7:=fun p:Later wr.heap.size wr=>p.keep d7
    have j8:=fun p:Later wr.heap.size wr=>p.keep d8
    by_cases hneg:r<0
    · have dn:decide (r<0)=true:=decide_eq_true hneg
      go_upto_region 2 with fail
      refine wp_region_later wr.heap.size (by kernel_rfl) (by kernel_rfl) ?_
      repeat (go_big_quiet_step (first | (go_at_call 108;with_reducible exact Later.call (Nat.le_refl _) (CPj.out _))))
      refine wpQuiet_nil ?_
      rintro wq ⟨q,hq⟩
      have HBq:=hid (show Below wb.heap.size wb wq by rw [hq];exact below_then HB.out q.low)
      clear hq q k0 k1 k2 k3 k4 k5 k6 k7 k8 j0 j1 j2 j3 j4 j5 j6 j7 j8
      go_wp2
      go_roundg (n-(i+1))
      case measure=>omega
      case rel=>exact ⟨i+1,by go_num,by omega,by omega,HBq.out,by
       show ∀ _,_
       intro j h hj
       rcases Nat.lt_or_ge j i with h2 | h2
       · exact HLO.out j h h2
       · obtain rfl:j=i:=by omega
         rw [←HR.out];exact hneg⟩
    · have dn:decide (r<0)=false:=decide_eq_false hneg
      go_upto_region 2 with fail
      refine wp_region_later wr.heap.size (by kernel_rfl) (by kernel_rfl) ?_
      repeat (go_big_quiet_step (first | (go_at_call 108;with_reducible exact Later.call (Nat.le_refl _) (CPj.out _))))
      refine wpQuiet_nil ?_
      clear k0 k1 k2 k3 k4 k5 k6 k7 k8 j0 j1 j2 j3 j4 j5 j6 j7 j8
      rintro wq ⟨q,hq⟩
      have HBq:=hid (show Below wb.heap.size wb wq by rw [hq];exact below_then HB.out q.low)
      have HUq:=hid (show Below wr.heap.size wr wq by rw [hq];exact q.low)
      clear hq q
      by_cases hz0:r=0
      · subst hz0
        have HPT:=hid (show Tm.put L ((n1,t1,x1),(n2,t2,x2),n3,t3,x3)=L from put_there hiL HLO.out HR.out.symm HL.out HT.out)
        go_upto_region 4 with fail
        have k0:=fun p:Later wq.heap.size wq=>p.keep (below_keep HUq.out c0)
        have k1:=fun p:Later wq.heap.size wq=>p.keep (below_keep HUq.out c1)
        have k2:=fun p:Later wq.heap.size wq=>p.keep (below_keep HUq.out c2)
        have k3:=fun p:Later wq.heap.size wq=>p.keep (below_keep HUq.out c3)
        have k4:=fun p:Later wq.heap.size wq=>p.keep (below_keep HUq.out c4)
        have k5:=fun p:Later wq.heap.size wq=>p.keep (below_keep HUq.out c5)
        have k6:=fun p:Later wq.heap.size wq=>p.keep (below_keep HUq.out c6)
        have k7:=fun p:Later wq.heap.size wq=>p.keep (below_keep HUq.out c7)
        have k8:=fun p:Later wq.heap.size wq=>p.keep (below_keep HUq.out c8)
        have j0:=fun p:Later wq.heap.size wq=>p.keep (below_keep HUq.out d0)
        have j1:=fun p:Later wq.heap.size wq=>p.keep (below_keep HUq.out d1)
        have j2:=fun p:Later wq.heap.size wq=>p.keep (below_keep HUq.out d2)
        have j3:=fun p:Later wq.heap.size wq=>p.keep (below_keep HUq.out d3)
        have j4:=fun p:Later wq.heap.size wq=>p.keep (below_keep HUq.out d4)
        have j5:=fun p:Later wq.heap.size wq=>p.keep (below_keep HUq.out d5)
        have j6:=fun p:Later wq.heap.size wq=>p.keep (below_keep HUq.out d6)
        have j7:=fun p:Later wq.heap.size wq=>p.keep (below_keep HUq.out d7)
        have j8:=fun p:Later wq.heap.size wq=>p.keep (below_keep HUq.out d8)
        refine wp_region_later wq.heap.size (by kernel_rfl) (by kernel_rfl) ?_
        repeat (go_big_quiet_step (first | (go_at_call 108;with_reducible exact Later.call (Nat.le_refl _) (CPj.out _))))
        refine wpQuiet_nil ?_
        rintro wq2 ⟨q,hq⟩
        clear k0 k1 k2 k3 k4 k5 k6 k7 k8 j0 j1 j2 j3 j4 j5 j6 j7 j8 c0 c1 c2 c3 c4 c5 c6 c7 c8 d0 d1 d2 d3 d4 d5 d6 d7 d8
        have HBq2:=hid (show Below wb.heap.size wb wq2 by rw [hq];exact below_then HBq.out q.low)
        clear hq q
        go_wp2
        go_ret
        exact ⟨_,rfl,by rw [HPT.out];exact (HV.out.keep HB1.out).keep HBq2.out,HB1.out.trans (HBq2.out.mono HB1.out.size)⟩
      · have hz0b:(r==0)=false:=beq_eq_false_iff_ne.2 hz0
        have HPT:=hid (show Tm.put L ((n1,t1,x1),(n2,t2,x2),n3,t3,x3)=L.take i++((n1,t1,x1),(n2,t2,x2),n3,t3,x3)::L.drop i from put_new (by rw [←HN.out];exact hin) HLO.out (fun h=>by rw [←HR.out];omega))
        go_upto_region 4 with fail
        have k0:=fun p:Later wq.heap.size wq=>p.keep (below_keep HUq.out c0)
        have k1:=fun p:Later wq.heap.size wq=>p.keep (below_keep HUq.out c1)
        have k2:=fun p:Later wq.heap.size wq=>p.keep (below_keep HUq.out c2)
        have k3:=fun p:Later wq.heap.size wq=>p.keep (below_keep HUq.out c3)
        have k4:=fun p:Later wq.heap.size wq=>p.keep (below_keep HUq.out c4)
        have k5:=fun p:Later wq.heap.size wq=>p.keep (below_keep HUq.out c5)
        have k6:=fun p:Later wq.heap.size wq=>p.keep (below_keep HUq.out c6)
        have k7:=fun p:Later wq.heap.size wq=>p.keep (below_keep HUq.out c7)
        have k8:=fun p:Later wq.heap.size wq=>p.keep (below_keep HUq.out c8)
        have j0:=fun p:Later wq.heap.size wq=>p.keep (below_keep HUq.out d0)
        have j1:=fun p:Later wq.heap.size wq=>p.keep (below_keep HUq.out d1)
        have j2:=fun p:Later wq.heap.size wq=>p.keep (below_keep HUq.out d2)
        have j3:=fun p:Later wq.heap.size wq=>p.keep (below_keep HUq.out d3)
        have j4:=fun p:Later wq.heap.size wq=>p.keep (below_keep HUq.out d4)
        have j5:=fun p:Later wq.heap.size wq=>p.keep (below_keep HUq.out d5)
        have j6:=fun p:Later wq.heap.size wq=>p.keep (below_keep HUq.out d6)
        have j7:=fun p:Later wq.heap.size wq=>p.keep (below_keep HUq.out d7)
        have j8:=fun p:Later wq.heap.size wq=>p.keep (below_keep HUq.out d8)
        refine wp_region_later wq.heap.size (by kernel_rfl) (by kernel_rfl) ?_
        repeat (go_big_quiet_step (first | (go_at_call 108;with_reducible exact Later.call (Nat.le_refl _) (CPj.out _))))
        refine wpQuiet_nil ?_
        rintro wq2 ⟨q,hq⟩
        clear k0 k1 k2 k3 k4 k5 k6 k7 k8 j0 j1 j2 j3 j4 j5 j6 j7 j8 c0 c1 c2 c3 c4 c5 c6 c7 c8 d0 d1 d2 d3 d4 d5 d6 d7 d8
        have HB6:=hid (show Below wb.heap.size wb wq2 by rw [hq];exact below_then HBq.out q.low)
        have HU6:=hid (show Blk wq2 w.heap.size [.int .i64 (n1:Nat),str t1,str x1,.int .i64 (n2:Nat),str t2,str x2,.int .i64 (n3:Nat),str t3,str x3] 67 from HU1.out.keep HB6.out)
        have hzb:=HU1.out.lt
        clear hq q
        obtain ⟨w6,hw6⟩:∃ w6,w6=wq2:=⟨_,rfl⟩
        rw [←hw6] at HB6 HU6 ⊢
        clear hw6
        have hic:i<cap:=by omega
        have hA1:i≤cap:=by omega
        have hcne:¬ cap=i:=by omega
        have hA2:(i:Int)≤(cap:Int):=by omega
        have hA3:(n:Int)≤(cap:Int):=by omega
        have hA4:(i:Int)≤(n:Int):=by omega
        have HF1:=hid ((HV.out.front i (by omega)).keep HB1.out)
        have HFX:=hid (show TrisAt wb (.slice (some ⟨bl,off,none⟩) i cap) ((L.take i).map ofT) by rw [List.map_take];exact HF1.out)
        have hlt1:(L.take i).length=i:=by rw [List.length_take,←HN.out];omega
        have NIL1:=hid (tris_src HFX.out).2.1
        have LEN1:=hid (show (rowCells (L.take i)).length=i*9 by rw [rowCells_len,hlt1])
        have F1:=hid (fun W (hW:Below wb.heap.size wb W)=>(tris_src (HFX.out.keep hW)).2.2)
        have HFY:=hid (show TrisAt wb (.slice (some ⟨bl,off+i*9,none⟩) (n-i) (cap-i)) ((L.drop i).map ofT) by rw [List.map_drop];exact (HV.out.back i (by omega)).keep HB1.out)
        have NIL2:=hid (tris_src HFY.out).2.1
        have LEN2:=hid (show (rowCells (L.drop i)).length=(n-i)*9 by rw [rowCells_len,←(tris_src HFY.out).1])
        have F2:=hid (fun W (hW:Below wb.heap.size wb W)=>(tris_src (HFY.out.keep hW)).2.2)
        have FINL:=hid (show 0+i+1+(n-i)=(L.take i++((n1,t1,x1),(n2,t2,x2),n3,t3,x3)::L.drop i).length by have h:=(tris_src HFY.out).1;rw [List.length_append,List.length_cons,hlt1,←h] <;> omega)
        clear hlt1
        obtain ⟨iS,hi0,hzS,hszS,hbyS⟩:=info_tri9
        have HZ6:=HB6.out.size
        have hzb6:=HU6.out.lt
        have OA:=hid (made_own w6.drew wb.heap.size HZ6)
        have HA:=hid (HB6.out.drew.alloc HZ6 (.cells #[] 67))
        have UA:=hid (show Blk (w6.drew.alloc (.cells #[] 67)) w.heap.size [.int .i64 (n1:Nat),str t1,str x1,.int .i64 (n2:Nat),str t2,str x2,.int .i64 (n3:Nat),str t3,str x3] 67 from HU6.out.alloc _)
        have OC:=hid (OA.out.alloc (.cells (ofT ((n1,t1,x1),(n2,t2,x2),n3,t3,x3)).cells.toArray 67))
        have HC:=hid (HA.out.alloc HA.out.size (.cells (ofT ((n1,t1,x1),(n2,t2,x2),n3,t3,x3)).cells.toArray 67))
        have UC:=hid (UA.out.alloc (.cells (ofT ((n1,t1,x1),(n2,t2,x2),n3,t3,x3)).cells.toArray 67))
        have TC:=hid (show Blk ((w6.drew.alloc (.cells #[] 67)).alloc (.cells (ofT ((n1,t1,x1),(n2,t2,x2),n3,t3,x3)).cells.toArray 67)) (w6.heap.size+1) (ofT ((n1,t1,x1),(n2,t2,x2),n3,t3,x3)).cells 67 from blk_new2 w6 _ _ _)
        have HE0:=hid (HB6.out.drew.alloc HZ6 (.cells (ofT ((n1,t1,x1),(n2,t2,x2),n3,t3,x3)).cells.toArray 67))
        have OE:=hid (show ((w6.drew.alloc (.cells (ofT ((n1,t1,x1),(n2,t2,x2),n3,t3,x3)).cells.toArray 67)).alloc (.cells #[] 67)).ownsRow wb.heap.size 67 9 (.slice (some ⟨w6.heap.size+1,0,none⟩) 0 0) 0 [] from made_own2 w6 wb.heap.size _ HZ6)
        have HE:=hid (HE0.out.alloc HE0.out.size (.cells #[] 67))
        have UE:=hid (show Blk ((w6.drew.alloc (.cells (ofT ((n1,t1,x1),(n2,t2,x2),n3,t3,x3)).cells.toArray 67)).alloc (.cells #[] 67)) w.heap.size [.int .i64 (n1:Nat),str t1,str x1,.int .i64 (n2:Nat),str t2,str x2,.int .i64 (n3:Nat),str t3,str x3] 67 from (HU6.out.alloc _).alloc _)
        have TE:=hid (show Blk ((w6.drew.alloc (.cells (ofT ((n1,t1,x1),(n2,t2,x2),n3,t3,x3)).cells.toArray 67)).alloc (.cells #[] 67)) w6.heap.size (ofT ((n1,t1,x1),(n2,t2,x2),n3,t3,x3)).cells 67 from (blk_new1 w6 _).alloc _)
        have d0:=HU6.out.cell (i:=0) rfl
        have d1:=HU6.out.cell (i:=1) rfl
        have d2:=HU6.out.cell (i:=2) rfl
        have d3:=HU6.out.cell (i:=3) rfl
        have d4:=HU6.out.cell (i:=4) rfl
        have d5:=HU6.out.cell (i:=5) rfl
        have d6:=HU6.out.cell (i:=6) rfl
        have d7:=HU6.out.cell (i:=7) rfl
        have d8:=HU6.out.cell (i:=8) rfl
        go_upto_region 6 with fail
        go_region_law (first
         | (refine step_append_opt (by rfl) (.tmp 35) (.tmp 38) 39 (by rfl) wb.heap.size 67 iS _ 9 120 Tryz.underlying39 hi0 hzS hszS hbyS rfl (by decide) (.slice (some ⟨w6.heap.size,0,none⟩) 0 0) 0 [] (by rfl) OA.out (some ⟨bl,off,none⟩) i cap (rowCells (L.take i)) (by rfl) NIL1.out LEN1.out (F1.out _ HA.out) (rowCells_one _) ?b1 ?b2 ?b3 ?_
            case b1=>(unfold maxLen;omega)
            case b2=>omega
            case b3=>exact HA.out.size
            intro v1 w1 g1 g2 g3
            have G1:=hid g1
            have HBx1:=hid (HA.out.grown g2 HA.out.size (fun k hk=>(OA.out.lt k hk).1))
            have HUx1:=hid (blk_grown UA.out g2 (fun e=>by have:=(OA.out.lt _ e).1;omega))
            have k0:=HUx1.out.cell (i:=0) rfl
            have k1:=HUx1.out.cell (i:=1) rfl
            have k2:=HUx1.out.cell (i:=2) rfl
            have k3:=HUx1.out.cell (i:=3) rfl
            have k4:=HUx1.out.cell (i:=4) rfl
            have k5:=HUx1.out.cell (i:=5) rfl
            have k6:=HUx1.out.cell (i:=6) rfl
            have k7:=HUx1.out.cell (i:=7) rfl
            have k8:=HUx1.out.cell (i:=8) rfl
            clear g1 g2 g3)
         | (refine step_append_opt (by rfl) (.tmp 35) (.tmp 38) 39 (by rfl) wb.heap.size 67 iS _ 9 120 Tryz.underlying39 hi0 hzS hszS hbyS rfl (by decide) (.slice (some ⟨w6.heap.size,0,none⟩) 0 0) 0 [] (by rfl) OC.out (some ⟨bl,off,none⟩) i cap (rowCells (L.take i)) (by rfl) NIL1.out LEN1.out (F1.out _ HC.out) (rowCells_one _) ?b1 ?b2 ?b3 ?_
            case b1=>(unfold maxLen;omega)
            case b2=>omega
            case b3=>exact HC.out.size
            intro v1 w1 g1 g2 g3
            have G1:=hid g1
            have HBx1:=hid (HC.out.grown g2 HC.out.size (fun k hk=>(OC.out.lt k hk).1))
            have HUx1:=hid (blk_grown UC.out g2 (fun e=>by have:=(OC.out.lt _ e).1;omega))
            have HTC:=hid (blk_grown TC.out g2 (fun e=>by simp [Value.ownBlock] at e))
            have k0:=HUx1.out.cell (i:=0) rfl
            have k1:=HUx1.out.cell (i:=1) rfl
            have k2:=HUx1.out.cell (i:=2) rfl
            have k3:=HUx1.out.cell (i:=3) rfl
            have k4:=HUx1.out.cell (i:=4) rfl
            have k5:=HUx1.out.cell (i:=5) rfl
            have k6:=HUx1.out.cell (i:=6) rfl
            have k7:=HUx1.out.cell (i:=7) rfl
            have k8:=HUx1.out.cell (i:=8) rfl
            clear g1 g2 g3)
         | (refine step_append_opt (by rfl) (.tmp 35) (.tmp 38) 39 (by rfl) wb.heap.size 67 iS _ 9 120 Tryz.underlying39 hi0 hzS hszS hbyS rfl (by decide) (.slice (some ⟨w6.heap.size+1,0,none⟩) 0 0) 0 [] (by rfl) OE.out (some ⟨bl,off,none⟩) i cap (rowCells (L.take i)) (by rfl) NIL1.out LEN1.out (F1.out _ HE.out) (rowCells_one _) ?b1 ?b2 ?b3 ?_
            case b1=>(unfold maxLen;omega)
            case b2=>omega
            case b3=>exact HE.out.size
            intro v1 w1 g1 g2 g3
            have G1:=hid g1
            have HBx1:=hid (HE.out.grown g2 HE.out.size (fun k hk=>(OE.out.lt k hk).1))
            have HUx1:=hid (blk_grown UE.out g2 (fun e=>by have:=(OE.out.lt _ e).1;omega))
            have HTE:=hid (blk_grown TE.out g2 (fun e=>by simp [Value.ownBlock] at e))
            have k0:=HUx1.out.cell (i:=0) rfl
            have k1:=HUx1.out.cell (i:=1) rfl
            have k2:=HUx1.out.cell (i:=2) rfl
            have k3:=HUx1.out.cell (i:=3) rfl
            have k4:=HUx1.out.cell (i:=4) rfl
            have k5:=HUx1.out.cell (i:=5) rfl
            have k6:=HUx1.out.cell (i:=6) rfl
            have k7:=HUx1.out.cell (i:=7) rfl
            have k8:=HUx1.out.cell (i:=8) rfl
            clear g1 g2 g3)
         | (refine step_append_opt (by rfl) (.tmp 39) (.tmp 41) 39 (by rfl) wb.heap.size 67 iS _ 9 120 Tryz.underlying39 hi0 hzS hszS hbyS rfl (by decide) v1 (0+i) ([]++(rowCells (L.take i))) (by rfl) (G1.out.alloc _) (some ⟨w1.heap.size,0,none⟩) 1 1 (ofT ((n1,t1,x1),(n2,t2,x2),n3,t3,x3)).cells (by rfl) (fun h=>by cases h) rfl (news9 w1 ((n1,t1,x1),(n2,t2,x2),n3,t3,x3)) (tri_one ((n1,t1,x1),(n2,t2,x2),n3,t3,x3)) ?b1 ?b2 ?b3 ?_
            case b1=>(unfold maxLen;omega)
            case b2=>omega
            case b3=>exact (HBx1.out.alloc HBx1.out.size _).size
            intro v2 w2 g1 g2 g3
            have G2:=hid g1
            have HBx2:=hid ((HBx1.out.alloc HBx1.out.size _).grown g2 (HBx1.out.alloc HBx1.out.size _).size (fun k hk=>(G1.out.lt k hk).1))
            clear g1 g2 g3)
         | (refine step_append_opt (by rfl) (.tmp 39) (.tmp 41) 39 (by rfl) wb.heap.size 67 iS _ 9 120 Tryz.underlying39 hi0 hzS hszS hbyS rfl (by decide) v1 (0+i) ([]++(rowCells (L.take i))) (by rfl) G1.out (some ⟨w6.heap.size+1,0,none⟩) 1 1 (ofT ((n1,t1,x1),(n2,t2,x2),n3,t3,x3)).cells (by rfl) (fun h=>by cases h) rfl (blk_src HTC.out) (tri_one ((n1,t1,x1),(n2,t2,x2),n3,t3,x3)) ?b1 ?b2 ?b3 ?_
            case b1=>(unfold maxLen;omega)
            case b2=>omega
            case b3=>exact HBx1.out.size
            intro v2 w2 g1 g2 g3
            have G2:=hid g1
            have HBx2:=hid (HBx1.out.grown g2 HBx1.out.size (fun k hk=>(G1.out.lt k hk).1))
            clear g1 g2 g3)
         | (refine step_append_opt (by rfl) (.tmp 39) (.tmp 41) 39 (by rfl) wb.heap.size 67 iS _ 9 120 Tryz.underlying39 hi0 hzS hszS hbyS rfl (by decide) v1 (0+i) ([]++(rowCells (L.take i))) (by rfl) G1.out (some ⟨w6.heap.size,0,none⟩) 1 1 (ofT ((n1,t1,x1),(n2,t2,x2),n3,t3,x3)).cells (by rfl) (fun h=>by cases h) rfl (blk_src HTE.out) (tri_one ((n1,t1,x1),(n2,t2,x2),n3,t3,x3)) ?b1 ?b2 ?b3 ?_
            case b1=>(unfold maxLen;omega)
            case b2=>omega
            case b3=>exact HBx1.out.size
            intro v2 w2 g1 g2 g3
            have G2:=hid g1
            have HBx2:=hid (HBx1.out.grown g2 HBx1.out.size (fun k hk=>(G1.out.lt k hk).1))
            clear g1 g2 g3)
         | (refine step_append_opt (by rfl) (.tmp 42) (.tmp 45) 39 (by rfl) wb.heap.size 67 iS _ 9 120 Tryz.underlying39 hi0 hzS hszS hbyS rfl (by decide) v2 (0+i+1) (([]++(rowCells (L.take i)))++(ofT ((n1,t1,x1),(n2,t2,x2),n3,t3,x3)).cells) (by rfl) G2.out (some ⟨bl,off+i*9,none⟩) (n-i) (cap-i) (rowCells (L.drop i)) (by rfl) NIL2.out LEN2.out (F2.out _ HBx2.out) (rowCells_one _) ?b1 ?b2 ?b3 ?_
            case b1=>(unfold maxLen;omega)
            case b2=>omega
            case b3=>exact HBx2.out.size
            intro v3 w3 g1 g2 g3
            have G3:=hid g1
            have HBx3:=hid (HBx2.out.grown g2 HBx2.out.size (fun k hk=>(G2.out.lt k hk).1))
            clear g1 g2 g3)
         | fail)
        all_goals
         have HG3:=hid (put_fin (L:=L) (t:=((n1,t1,x1),(n2,t2,x2),n3,t3,x3)) (i:=i) G3.out FINL.out)
         go_wp2
         go_ret
         exact ⟨v3,rfl,by rw [HPT.out];exact HG3.out,HB1.out.trans (HBx3.out.mono HB1.out.size)⟩
  · obtain rfl:i=n:=by omega
    have hltz:¬ (i:Int)<(i:Int):=by omega
    have dlt:decide ((i:Int)<(i:Int))=false:=decide_eq_false hltz
    have HPT:=hid (show Tm.put L ((n1,t1,x1),(n2,t2,x2),n3,t3,x3)=L.take i++((n1,t1,x1),(n2,t2,x2),n3,t3,x3)::L.drop i from put_new (by rw [←HN.out];exact hin) HLO.out (fun h=>by have:=HN.out;omega))
    go_upto_region 2 with fail
    refine wp_region_later wr.heap.size (by kernel_rfl) (by kernel_rfl) ?_
    repeat (go_big_quiet_step (first | fail))
    refine wpQuiet_nil ?_
    rintro wq ⟨q,hq⟩
    have HBq:=hid (show Below wb.heap.size wb wq by rw [hq];exact below_then HB.out q.low)
    clear hq q
    go_upto_region 4 with fail
    refine wp_region_later wq.heap.size (by kernel_rfl) (by kernel_rfl) ?_
    repeat (go_big_quiet_step (first | fail))
    refine wpQuiet_nil ?_
    rintro wq2 ⟨q,hq⟩
    have HB6:=hid (show Below wb.heap.size wb wq2 by rw [hq];exact below_then HBq.out q.low)
    have HU6:=hid (show Blk wq2 w.heap.size [.int .i64 (n1:Nat),str t1,str x1,.int .i64 (n2:Nat),str t2,str x2,.int .i64 (n3:Nat),str t3,str x3] 67 from HU1.out.keep HB6.out)
    have hzb:=HU1.out.lt
    clear hq q
    obtain ⟨w6,hw6⟩:∃ w6,w6=wq2:=⟨_,rfl⟩
    rw [←hw6] at HB6 HU6 ⊢
    clear hw6
    have hde:(L.drop i).map ofT=[]:=by rw [List.drop_eq_nil_of_le (by rw [←HN.out];exact Nat.le_refl _)];rfl
    rcases Nat.eq_zero_or_pos i with hi0' | hi0'
    · subst hi0'
      rcases a with _ | ad
      · obtain rfl:cap=0:=hc3 rfl
        have HF1:=hid ((HV.out.front 0 (by omega)).keep HB1.out)
        have HFX:=hid (show TrisAt wb (.slice none 0 0) ((L.take 0).map ofT) by rw [List.map_take];exact HF1.out)
        have hlt1:(L.take 0).length=0:=by rw [List.length_take,←HN.out];omega
        have NIL1:=hid (tris_src HFX.out).2.1
        have LEN1:=hid (show (rowCells (L.take 0)).length=0*9 by rw [rowCells_len,hlt1])
        have F1:=hid (fun W (hW:Below wb.heap.size wb W)=>(tris_src (HFX.out.keep hW)).2.2)
        have HFY:=hid (show TrisAt wb (.slice none 0 0) ((L.drop 0).map ofT) by rw [hde];exact ⟨_,_,rfl,Nat.zero_le _,by omega,(fun h=>by first | rfl | cases h),.inl rfl⟩)
        have NIL2:=hid (tris_src HFY.out).2.1
        have LEN2:=hid (show (rowCells (L.drop 0)).length=0*9 by rw [rowCells_len,←(tris_src HFY.out).1])
        have F2:=hid (fun W (hW:Below wb.heap.size wb W)=>(tris_src (HFY.out.keep hW)).2.2)
        have FINL:=hid (show 0+0+1+0=(L.take 0++((n1,t1,x1),(n2,t2,x2),n3,t3,x3)::L.drop 0).length by have h:=(tris_src HFY.out).1;rw [List.length_append,List.length_cons,hlt1,←h] <;> omega)
        clear hlt1
        obtain ⟨iS,hi0,hzS,hszS,hbyS⟩:=info_tri9
        have HZ6:=HB6.out.size
        have hzb6:=HU6.out.lt
        have OA:=hid (made_own w6.drew wb.heap.size HZ6)
        have HA:=hid (HB6.out.drew.alloc HZ6 (.cells #[] 67))
        have UA:=hid (show Blk (w6.drew.alloc (.cells #[] 67)) w.heap.size [.int .i64 (n1:Nat),str t1,str x1,.int .i64 (n2:Nat),str t2,str x2,.int .i64 (n3:Nat),str t3,str x3] 67 from HU6.out.alloc _)
        have OC:=hid (OA.out.alloc (.cells (ofT ((n1,t1,x1),(n2,t2,x2),n3,t3,x3)).cells.toArray 67))
        have HC:=hid (HA.out.alloc HA.out.size (.cells (ofT ((n1,t1,x1),(n2,t2,x2),n3,t3,x3)).cells.toArray 67))
        have UC:=hid (UA.out.alloc (.cells (ofT ((n1,t1,x1),(n2,t2,x2),n3,t3,x3)).cells.toArray 67))
        have TC:=hid (show Blk ((w6.drew.alloc (.cells #[] 67)).alloc (.cells (ofT ((n1,t1,x1),(n2,t2,x2),n3,t3,x3)).cells.toArray 67)) (w6.heap.size+1) (ofT ((n1,t1,x1),(n2,t2,x2),n3,t3,x3)).cells 67 from blk_new2 w6 _ _ _)
        have HE0:=hid (HB6.out.drew.alloc HZ6 (.cells (ofT ((n1,t1,x1),(n2,t2,x2),n3,t3,x3)).cells.toArray 67))
        have OE:=hid (show ((w6.drew.alloc (.cells (ofT ((n1,t1,x1),(n2,t2,x2),n3,t3,x3)).cells.toArray 67)).alloc (.cells #[] 67)).ownsRow wb.heap.size 67 9 (.slice (some ⟨w6.heap.size+1,0,none⟩) 0 0) 0 [] from made_own2 w6 wb.heap.size _ HZ6)
        have HE:=hid (HE0.out.alloc HE0.out.size (.cells #[] 67))
        have UE:=hid (show Blk ((w6.drew.alloc (.cells (ofT ((n1,t1,x1),(n2,t2,x2),n3,t3,x3)).cells.toArray 67)).alloc (.cells #[] 67)) w.heap.size [.int .i64 (n1:Nat),str t1,str x1,.int .i64 (n2:Nat),str t2,str x2,.int .i64 (n3:Nat),str t3,str x3] 67 from (HU6.out.alloc _).alloc _)
        have TE:=hid (show Blk ((w6.drew.alloc (.cells (ofT ((n1,t1,x1),(n2,t2,x2),n3,t3,x3)).cells.toArray 67)).alloc (.cells #[] 67)) w6.heap.size (ofT ((n1,t1,x1),(n2,t2,x2),n3,t3,x3)).cells 67 from (blk_new1 w6 _).alloc _)
        have d0:=HU6.out.cell (i:=0) rfl
        have d1:=HU6.out.cell (i:=1) rfl
        have d2:=HU6.out.cell (i:=2) rfl
        have d3:=HU6.out.cell (i:=3) rfl
        have d4:=HU6.out.cell (i:=4) rfl
        have d5:=HU6.out.cell (i:=5) rfl
        have d6:=HU6.out.cell (i:=6) rfl
        have d7:=HU6.out.cell (i:=7) rfl
        have d8:=HU6.out.cell (i:=8) rfl
        go_upto_region 6 with fail
        go_region_law (first
         | (refine step_append_opt (by rfl) (.tmp 35) (.tmp 38) 39 (by rfl) wb.heap.size 67 iS _ 9 120 Tryz.underlying39 hi0 hzS hszS hbyS rfl (by decide) (.slice (some ⟨w6.heap.size,0,none⟩) 0 0) 0 [] (by rfl) OA.out none 0 0 (rowCells (L.take 0)) (by rfl) NIL1.out LEN1.out (F1.out _ HA.out) (rowCells_one _) ?b1 ?b2 ?b3 ?_
            case b1=>(unfold maxLen;omega)
            case b2=>omega
            case b3=>exact HA.out.size
            intro v1 w1 g1 g2 g3
            have G1:=hid g1
            have HBx1:=hid (HA.out.grown g2 HA.out.size (fun k hk=>(OA.out.lt k hk).1))
            have HUx1:=hid (blk_grown UA.out g2 (fun e=>by have:=(OA.out.lt _ e).1;omega))
            have k0:=HUx1.out.cell (i:=0) rfl
            have k1:=HUx1.out.cell (i:=1) rfl
            have k2:=HUx1.out.cell (i:=2) rfl
            have k3:=HUx1.out.cell (i:=3) rfl
            have k4:=HUx1.out.cell (i:=4) rfl
            have k5:=HUx1.out.cell (i:=5) rfl
            have k6:=HUx1.out.cell (i:=6) rfl
            have k7:=HUx1.out.cell (i:=7) rfl
            have k8:=HUx1.out.cell (i:=8) rfl
            clear g1 g2 g3)
         | (refine step_append_opt (by rfl) (.tmp 35) (.tmp 38) 39 (by rfl) wb.heap.size 67 iS _ 9 120 Tryz.underlying39 hi0 hzS hszS hbyS rfl (by decide) (.slice (some ⟨w6.heap.size,0,none⟩) 0 0) 0 [] (by rfl) OC.out none 0 0 (rowCells (L.take 0)) (by rfl) NIL1.out LEN1.out (F1.out _ HC.out) (rowCells_one _) ?b1 ?b2 ?b3 ?_
            case b1=>(unfold maxLen;omega)
            case b2=>omega
            case b3=>exact HC.out.size
            intro v1 w1 g1 g2 g3
            have G1:=hid g1
            have HBx1:=hid (HC.out.grown g2 HC.out.size (fun k hk=>(OC.out.lt k hk).1))
            have HUx1:=hid (blk_grown UC.out g2 (fun e=>by have:=(OC.out.lt _ e).1;omega))
            have HTC:=hid (blk_grown TC.out g2 (fun e=>by simp [Value.ownBlock] at e))
            have k0:=HUx1.out.cell (i:=0) rfl
            have k1:=HUx1.out.cell (i:=1) rfl
            have k2:=HUx1.out.cell (i:=2) rfl
            have k3:=HUx1.out.cell (i:=3) rfl
            have k4:=HUx1.out.cell (i:=4) rfl
            have k5:=HUx1.out.cell (i:=5) rfl
            have k6:=HUx1.out.cell (i:=6) rfl
            have k7:=HUx1.out.cell (i:=7) rfl
            have k8:=HUx1.out.cell (i:=8) rfl
            clear g1 g2 g3)
         | (refine step_append_opt (by rfl) (.tmp 35) (.tmp 38) 39 (by rfl) wb.heap.size 67 iS _ 9 120 Tryz.underlying39 hi0 hzS hszS hbyS rfl (by decide) (.slice (some ⟨w6.heap.size+1,0,none⟩) 0 0) 0 [] (by rfl) OE.out none 0 0 (rowCells (L.take 0)) (by rfl) NIL1.out LEN1.out (F1.out _ HE.out) (rowCells_one _) ?b1 ?b2 ?b3 ?_
            case b1=>(unfold maxLen;omega)
            case b2=>omega
            case b3=>exact HE.out.size
            intro v1 w1 g1 g2 g3
            have G1:=hid g1
            have HBx1:=hid (HE.out.grown g2 HE.out.size (fun k hk=>(OE.out.lt k hk).1))
            have HUx1:=hid (blk_grown UE.out g2 (fun e=>by have:=(OE.out.lt _ e).1;omega))
            have HTE:=hid (blk_grown TE.out g2 (fun e=>by simp [Value.ownBlock] at e))
            have k0:=HUx1.out.cell (i:=0) rfl
            have k1:=HUx1.out.cell (i:=1) rfl
            have k2:=HUx1.out.cell (i:=2) rfl
            have k3:=HUx1.out.cell (i:=3) rfl
            have k4:=HUx1.out.cell (i:=4) rfl
            have k5:=HUx1.out.cell (i:=5) rfl
            have k6:=HUx1.out.cell (i:=6) rfl
            have k7:=HUx1.out.cell (i:=7) rfl
            have k8:=HUx1.out.cell (i:=8) rfl
            clear g1 g2 g3)
         | (refine step_append_opt (by rfl) (.tmp 39) (.tmp 41) 39 (by rfl) wb.heap.size 67 iS _ 9 120 Tryz.underlying39 hi0 hzS hszS hbyS rfl (by decide) v1 (0+0) ([]++(rowCells (L.take 0))) (by rfl) (G1.out.alloc _) (some ⟨w1.heap.size,0,none⟩) 1 1 (ofT ((n1,t1,x1),(n2,t2,x2),n3,t3,x3)).cells (by rfl) (fun h=>by cases h) rfl (news9 w1 ((n1,t1,x1),(n2,t2,x2),n3,t3,x3)) (tri_one ((n1,t1,x1),(n2,t2,x2),n3,t3,x3)) ?b1 ?b2 ?b3 ?_
            case b1=>(unfold maxLen;omega)
            case b2=>omega
            case b3=>exact (HBx1.out.alloc HBx1.out.size _).size
            intro v2 w2 g1 g2 g3
            have G2:=hid g1
            have HBx2:=hid ((HBx1.out.alloc HBx1.out.size _).grown g2 (HBx1.out.alloc HBx1.out.size _).size (fun k hk=>(G1.out.lt k hk).1))
            clear g1 g2 g3)
         | (refine step_append_opt (by rfl) (.tmp 39) (.tmp 41) 39 (by rfl) wb.heap.size 67 iS _ 9 120 Tryz.underlying39 hi0 hzS hszS hbyS rfl (by decide) v1 (0+0) ([]++(rowCells (L.take 0))) (by rfl) G1.out (some ⟨w6.heap.size+1,0,none⟩) 1 1 (ofT ((n1,t1,x1),(n2,t2,x2),n3,t3,x3)).cells (by rfl) (fun h=>by cases h) rfl (blk_src HTC.out) (tri_one ((n1,t1,x1),(n2,t2,x2),n3,t3,x3)) ?b1 ?b2 ?b3 ?_
            case b1=>(unfold maxLen;omega)
            case b2=>omega
            case b3=>exact HBx1.out.size
            intro v2 w2 g1 g2 g3
            have G2:=hid g1
            have HBx2:=hid (HBx1.out.grown g2 HBx1.out.size (fun k hk=>(G1.out.lt k hk).1))
            clear g1 g2 g3)
         | (refine step_append_opt (by rfl) (.tmp 39) (.tmp 41) 39 (by rfl) wb.heap.size 67 iS _ 9 120 Tryz.underlying39 hi0 hzS hszS hbyS rfl (by decide) v1 (0+0) ([]++(rowCells (L.take 0))) (by rfl) G1.out (some ⟨w6.heap.size,0,none⟩) 1 1 (ofT ((n1,t1,x1),(n2,t2,x2),n3,t3,x3)).cells (by rfl) (fun h=>by cases h) rfl (blk_src HTE.out) (tri_one ((n1,t1,x1),(n2,t2,x2),n3,t3,x3)) ?b1 ?b2 ?b3 ?_
            case b1=>(unfold maxLen;omega)
            case b2=>omega
            case b3=>exact HBx1.out.size
            intro v2 w2 g1 g2 g3
            have G2:=hid g1
            have HBx2:=hid (HBx1.out.grown g2 HBx1.out.size (fun k hk=>(G1.out.lt k hk).1))
            clear g1 g2 g3)
         | (refine step_append_opt (by rfl) (.tmp 42) (.tmp 45) 39 (by rfl) wb.heap.size 67 iS _ 9 120 Tryz.underlying39 hi0 hzS hszS hbyS rfl (by decide) v2 (0+0+1) (([]++(rowCells (L.take 0)))++(ofT ((n1,t1,x1),(n2,t2,x2),n3,t3,x3)).cells) (by rfl) G2.out none 0 0 (rowCells (L.drop 0)) (by rfl) NIL2.out LEN2.out (F2.out _ HBx2.out) (rowCells_one _) ?b1 ?b2 ?b3 ?_
            case b1=>(unfold maxLen;omega)
            case b2=>omega
            case b3=>exact HBx2.out.size
            intro v3 w3 g1 g2 g3
            have G3:=hid g1
            have HBx3:=hid (HBx2.out.grown g2 HBx2.out.size (fun k hk=>(G2.out.lt k hk).1))
            clear g1 g2 g3)
         | fail)
        all_goals
         have HG3:=hid (put_fin (L:=L) (t:=((n1,t1,x1),(n2,t2,x2),n3,t3,x3)) (i:=0) G3.out FINL.out)
         go_wp2
         go_ret
         exact ⟨v3,rfl,by rw [HPT.out];exact HG3.out,HB1.out.trans (HBx3.out.mono HB1.out.size)⟩
      ·
       have HF1:=hid ((HV.out.front 0 (by omega)).keep HB1.out)
       have HFX:=hid (show TrisAt wb (.slice (some ad) 0 cap) ((L.take 0).map ofT) by rw [List.map_take];exact HF1.out)
       have hlt1:(L.take 0).length=0:=by rw [List.length_take,←HN.out];omega
       have NIL1:=hid (tris_src HFX.out).2.1
       have LEN1:=hid (show (rowCells (L.take 0)).length=0*9 by rw [rowCells_len,hlt1])
       have F1:=hid (fun W (hW:Below wb.heap.size wb W)=>(tris_src (HFX.out.keep hW)).2.2)
       have HFY:=hid (show TrisAt wb (.slice (some ad) 0 cap) ((L.drop 0).map ofT) by rw [hde];exact ⟨_,_,rfl,Nat.zero_le _,by omega,(fun h=>by first | rfl | cases h),.inl rfl⟩)
       have NIL2:=hid (tris_src HFY.out).2.1
       have LEN2:=hid (show (rowCells (L.drop 0)).length=0*9 by rw [rowCells_len,←(tris_src HFY.out).1])
       have F2:=hid (fun W (hW:Below wb.heap.size wb W)=>(tris_src (HFY.out.keep hW)).2.2)
       have FINL:=hid (show 0+0+1+0=(L.take 0++((n1,t1,x1),(n2,t2,x2),n3,t3,x3)::L.drop 0).length by have h:=(tris_src HFY.out).1;rw [List.length_append,List.length_cons,hlt1,←h] <;> omega)
       clear hlt1
       obtain ⟨iS,hi0,hzS,hszS,hbyS⟩:=info_tri9
       have HZ6:=HB6.out.size
       have hzb6:=HU6.out.lt
       have OA:=hid (made_own w6.drew wb.heap.size HZ6)
       have HA:=hid (HB6.out.drew.alloc HZ6 (.cells #[] 67))
       have UA:=hid (show Blk (w6.drew.alloc (.cells #[] 67)) w.heap.size [.int .i64 (n1:Nat),str t1,str x1,.int .i64 (n2:Nat),str t2,str x2,.int .i64 (n3:Nat),str t3,str x3] 67 from HU6.out.alloc _)
       have OC:=hid (OA.out.alloc (.cells (ofT ((n1,t1,x1),(n2,t2,x2),n3,t3,x3)).cells.toArray 67))
       have HC:=hid (HA.out.alloc HA.out.size (.cells (ofT ((n1,t1,x1),(n2,t2,x2),n3,t3,x3)).cells.toArray 67))
       have UC:=hid (UA.out.alloc (.cells (ofT ((n1,t1,x1),(n2,t2,x2),n3,t3,x3)).cells.toArray 67))
       have TC:=hid (show Blk ((w6.drew.alloc (.cells #[] 67)).alloc (.cells (ofT ((n1,t1,x1),(n2,t2,x2),n3,t3,x3)).cells.toArray 67)) (w6.heap.size+1) (ofT ((n1,t1,x1),(n2,t2,x2),n3,t3,x3)).cells 67 from blk_new2 w6 _ _ _)
       have HE0:=hid (HB6.out.drew.alloc HZ6 (.cells (ofT ((n1,t1,x1),(n2,t2,x2),n3,t3,x3)).cells.toArray 67))
       have OE:=hid (show ((w6.drew.alloc (.cells (ofT ((n1,t1,x1),(n2,t2,x2),n3,t3,x3)).cells.toArray 67)).alloc (.cells #[] 67)).ownsRow wb.heap.size 67 9 (.slice (some ⟨w6.heap.size+1,0,none⟩) 0 0) 0 [] from made_own2 w6 wb.heap.size _ HZ6)
       have HE:=hid (HE0.out.alloc HE0.out.size (.cells #[] 67))
       have UE:=hid (show Blk ((w6.drew.alloc (.cells (ofT ((n1,t1,x1),(n2,t2,x2),n3,t3,x3)).cells.toArray 67)).alloc (.cells #[] 67)) w.heap.size [.int .i64 (n1:Nat),str t1,str x1,.int .i64 (n2:Nat),str t2,str x2,.int .i64 (n3:Nat),str t3,str x3] 67 from (HU6.out.alloc _).alloc _)
       have TE:=hid (show Blk ((w6.drew.alloc (.cells (ofT ((n1,t1,x1),(n2,t2,x2),n3,t3,x3)).cells.toArray 67)).alloc (.cells #[] 67)) w6.heap.size (ofT ((n1,t1,x1),(n2,t2,x2),n3,t3,x3)).cells 67 from (blk_new1 w6 _).alloc _)
       have d0:=HU6.out.cell (i:=0) rfl
       have d1:=HU6.out.cell (i:=1) rfl
       have d2:=HU6.out.cell (i:=2) rfl
       have d3:=HU6.out.cell (i:=3) rfl
       have d4:=HU6.out.cell (i:=4) rfl
       have d5:=HU6.out.cell (i:=5) rfl
       have d6:=HU6.out.cell (i:=6) rfl
       have d7:=HU6.out.cell (i:=7) rfl
       have d8:=HU6.out.cell (i:=8) rfl
       go_upto_region 6 with fail
       go_region_law (first
        | (refine step_append_opt (by rfl) (.tmp 35) (.tmp 38) 39 (by rfl) wb.heap.size 67 iS _ 9 120 Tryz.underlying39 hi0 hzS hszS hbyS rfl (by decide) (.slice (some ⟨w6.heap.size,0,none⟩) 0 0) 0 [] (by rfl) OA.out (some ad) 0 cap (rowCells (L.take 0)) (by rfl) NIL1.out LEN1.out (F1.out _ HA.out) (rowCells_one _) ?b1 ?b2 ?b3 ?_
           case b1=>(unfold maxLen;omega)
           case b2=>omega
           case b3=>exact HA.out.size
           intro v1 w1 g1 g2 g3
           have G1:=hid g1
           have HBx1:=hid (HA.out.grown g2 HA.out.size (fun k hk=>(OA.out.lt k hk).1))
           have HUx1:=hid (blk_grown UA.out g2 (fun e=>by have:=(OA.out.lt _ e).1;omega))
           have k0:=HUx1.out.cell (i:=0) rfl
           have k1:=HUx1.out.cell (i:=1) rfl
           have k2:=HUx1.out.cell (i:=2) rfl
           have k3:=HUx1.out.cell (i:=3) rfl
           have k4:=HUx1.out.cell (i:=4) rfl
           have k5:=HUx1.out.cell (i:=5) rfl
           have k6:=HUx1.out.cell (i:=6) rfl
           have k7:=HUx1.out.cell (i:=7) rfl
           have k8:=HUx1.out.cell (i:=8) rfl
           clear g1 g2 g3)
        | (refine step_append_opt (by rfl) (.tmp 35) (.tmp 38) 39 (by rfl) wb.heap.size 67 iS _ 9 120 Tryz.underlying39 hi0 hzS hszS hbyS rfl (by decide) (.slice (some ⟨w6.heap.size,0,none⟩) 0 0) 0 [] (by rfl) OC.out (some ad) 0 cap (rowCells (L.take 0)) (by rfl) NIL1.out LEN1.out (F1.out _ HC.out) (rowCells_one _) ?b1 ?b2 ?b3 ?_
           case b1=>(unfold maxLen;omega)
           case b2=>omega
           case b3=>exact HC.out.size
           intro v1 w1 g1 g2 g3
           have G1:=hid g1
           have HBx1:=hid (HC.out.grown g2 HC.out.size (fun k hk=>(OC.out.lt k hk).1))
           have HUx1:=hid (blk_grown UC.out g2 (fun e=>by have:=(OC.out.lt _ e).1;omega))
           have HTC:=hid (blk_grown TC.out g2 (fun e=>by simp [Value.ownBlock] at e))
           have k0:=HUx1.out.cell (i:=0) rfl
           have k1:=HUx1.out.cell (i:=1) rfl
           have k2:=HUx1.out.cell (i:=2) rfl
           have k3:=HUx1.out.cell (i:=3) rfl
           have k4:=HUx1.out.cell (i:=4) rfl
           have k5:=HUx1.out.cell (i:=5) rfl
           have k6:=HUx1.out.cell (i:=6) rfl
           have k7:=HUx1.out.cell (i:=7) rfl
           have k8:=HUx1.out.cell (i:=8) rfl
           clear g1 g2 g3)
        | (refine step_append_opt (by rfl) (.tmp 35) (.tmp 38) 39 (by rfl) wb.heap.size 67 iS _ 9 120 Tryz.underlying39 hi0 hzS hszS hbyS rfl (by decide) (.slice (some ⟨w6.heap.size+1,0,none⟩) 0 0) 0 [] (by rfl) OE.out (some ad) 0 cap (rowCells (L.take 0)) (by rfl) NIL1.out LEN1.out (F1.out _ HE.out) (rowCells_one _) ?b1 ?b2 ?b3 ?_
           case b1=>(unfold maxLen;omega)
           case b2=>omega
           case b3=>exact HE.out.size
           intro v1 w1 g1 g2 g3
           have G1:=hid g1
           have HBx1:=hid (HE.out.grown g2 HE.out.size (fun k hk=>(OE.out.lt k hk).1))
           have HUx1:=hid (blk_grown UE.out g2 (fun e=>by have:=(OE.out.lt _ e).1;omega))
           have HTE:=hid (blk_grown TE.out g2 (fun e=>by simp [Value.ownBlock] at e))
           have k0:=HUx1.out.cell (i:=0) rfl
           have k1:=HUx1.out.cell (i:=1) rfl
           have k2:=HUx1.out.cell (i:=2) rfl
           have k3:=HUx1.out.cell (i:=3) rfl
           have k4:=HUx1.out.cell (i:=4) rfl
           have k5:=HUx1.out.cell (i:=5) rfl
           have k6:=HUx1.out.cell (i:=6) rfl
           have k7:=HUx1.out.cell (i:=7) rfl
           have k8:=HUx1.out.cell (i:=8) rfl
           clear g1 g2 g3)
        | (refine step_append_opt (by rfl) (.tmp 39) (.tmp 41) 39 (by rfl) wb.heap.size 67 iS _ 9 120 Tryz.underlying39 hi0 hzS hszS hbyS rfl (by decide) v1 (0+0) ([]++(rowCells (L.take 0))) (by rfl) (G1.out.alloc _) (some ⟨w1.heap.size,0,none⟩) 1 1 (ofT ((n1,t1,x1),(n2,t2,x2),n3,t3,x3)).cells (by rfl) (fun h=>by cases h) rfl (news9 w1 ((n1,t1,x1),(n2,t2,x2),n3,t3,x3)) (tri_one ((n1,t1,x1),(n2,t2,x2),n3,t3,x3)) ?b1 ?b2 ?b3 ?_
           case b1=>(unfold maxLen;omega)
           case b2=>omega
           case b3=>exact (HBx1.out.alloc HBx1.out.size _).size
           intro v2 w2 g1 g2 g3
           have G2:=hid g1
           have HBx2:=hid ((HBx1.out.alloc HBx1.out.size _).grown g2 (HBx1.out.alloc HBx1.out.size _).size (fun k hk=>(G1.out.lt k hk).1))
           clear g1 g2 g3)
        | (refine step_append_opt (by rfl) (.tmp 39) (.tmp 41) 39 (by rfl) wb.heap.size 67 iS _ 9 120 Tryz.underlying39 hi0 hzS hszS hbyS rfl (by decide) v1 (0+0) ([]++(rowCells (L.take 0))) (by rfl) G1.out (some ⟨w6.heap.size+1,0,none⟩) 1 1 (ofT ((n1,t1,x1),(n2,t2,x2),n3,t3,x3)).cells (by rfl) (fun h=>by cases h) rfl (blk_src HTC.out) (tri_one ((n1,t1,x1),(n2,t2,x2),n3,t3,x3)) ?b1 ?b2 ?b3 ?_
           case b1=>(unfold maxLen;omega)
           case b2=>omega
           case b3=>exact HBx1.out.size
           intro v2 w2 g1 g2 g3
           have G2:=hid g1
           have HBx2:=hid (HBx1.out.grown g2 HBx1.out.size (fun k hk=>(G1.out.lt k hk).1))
           clear g1 g2 g3)
        | (refine step_append_opt (by rfl) (.tmp 39) (.tmp 41) 39 (by rfl) wb.heap.size 67 iS _ 9 120 Tryz.underlying39 hi0 hzS hszS hbyS rfl (by decide) v1 (0+0) ([]++(rowCells (L.take 0))) (by rfl) G1.out (some ⟨w6.heap.size,0,none⟩) 1 1 (ofT ((n1,t1,x1),(n2,t2,x2),n3,t3,x3)).cells (by rfl) (fun h=>by cases h) rfl (blk_src HTE.out) (tri_one ((n1,t1,x1),(n2,t2,x2),n3,t3,x3)) ?b1 ?b2 ?b3 ?_
           case b1=>(unfold maxLen;omega)
           case b2=>omega
           case b3=>exact HBx1.out.size
           intro v2 w2 g1 g2 g3
           have G2:=hid g1
           have HBx2:=hid (HBx1.out.grown g2 HBx1.out.size (fun k hk=>(G1.out.lt k hk).1))
           clear g1 g2 g3)
        | (refine step_append_opt (by rfl) (.tmp 42) (.tmp 45) 39 (by rfl) wb.heap.size 67 iS _ 9 120 Tryz.underlying39 hi0 hzS hszS hbyS rfl (by decide) v2 (0+0+1) (([]++(rowCells (L.take 0)))++(ofT ((n1,t1,x1),(n2,t2,x2),n3,t3,x3)).cells) (by rfl) G2.out (some ad) 0 cap (rowCells (L.drop 0)) (by rfl) NIL2.out LEN2.out (F2.out _ HBx2.out) (rowCells_one _) ?b1 ?b2 ?b3 ?_
           case b1=>(unfold maxLen;omega)
           case b2=>omega
           case b3=>exact HBx2.out.size
           intro v3 w3 g1 g2 g3
           have G3:=hid g1
           have HBx3:=hid (HBx2.out.grown g2 HBx2.out.size (fun k hk=>(G2.out.lt k hk).1))
           clear g1 g2 g3)
        | fail)
       all_goals
        have HG3:=hid (put_fin (L:=L) (t:=((n1,t1,x1),(n2,t2,x2),n3,t3,x3)) (i:=0) G3.out FINL.out)
        go_wp2
        go_ret
        exact ⟨v3,rfl,by rw [HPT.out];exact HG3.out,HB1.out.trans (HBx3.out.mono HB1.out.size)⟩
    · obtain ⟨bl,off,rfl,hrow⟩:=HV.out.get (i:=0) (by rw [List.length_map,←HN.out];exact hi0')
      clear hrow
      by_cases hck:cap=i
      · subst hck
        have HF1:=hid ((HV.out.front cap (by omega)).keep HB1.out)
        have HFX:=hid (show TrisAt wb (.slice (some ⟨bl,off,none⟩) cap cap) ((L.take cap).map ofT) by rw [List.map_take];exact HF1.out)
        have hlt1:(L.take cap).length=cap:=by rw [List.length_take,←HN.out];omega
        have NIL1:=hid (tris_src HFX.out).2.1
        have LEN1:=hid (show (rowCells (L.take cap)).length=cap*9 by rw [rowCells_len,hlt1])
        have F1:=hid (fun W (hW:Below wb.heap.size wb W)=>(tris_src (HFX.out.keep hW)).2.2)
        have HFY:=hid (show TrisAt wb (.slice (some ⟨bl,off,none⟩) 0 0) ((L.drop cap).map ofT) by rw [hde];exact ⟨_,_,rfl,Nat.zero_le _,by omega,(fun h=>by first | rfl | cases h),.inl rfl⟩)
        have NIL2:=hid (tris_src HFY.out).2.1
        have LEN2:=hid (show (rowCells (L.drop cap)).length=0*9 by rw [rowCells_len,←(tris_src HFY.out).1])
        have F2:=hid (fun W (hW:Below wb.heap.size wb W)=>(tris_src (HFY.out.keep hW)).2.2)
        have FINL:=hid (show 0+cap+1+0=(L.take cap++((n1,t1,x1),(n2,t2,x2),n3,t3,x3)::L.drop cap).length by have h:=(tris_src HFY.out).1;rw [List.length_append,List.length_cons,hlt1,←h] <;> omega)
        clear hlt1
        obtain ⟨iS,hi0,hzS,hszS,hbyS⟩:=info_tri9
        have HZ6:=HB6.out.size
        have hzb6:=HU6.out.lt
        have OA:=hid (made_own w6.drew wb.heap.size HZ6)
        have HA:=hid (HB6.out.drew.alloc HZ6 (.cells #[] 67))
        have UA:=hid (show Blk (w6.drew.alloc (.cells #[] 67)) w.heap.size [.int .i64 (n1:Nat),str t1,str x1,.int .i64 (n2:Nat),str t2,str x2,.int .i64 (n3:Nat),str t3,str x3] 67 from HU6.out.alloc _)
        have OC:=hid (OA.out.alloc (.cells (ofT ((n1,t1,x1),(n2,t2,x2),n3,t3,x3)).cells.toArray 67))
        have HC:=hid (HA.out.alloc HA.out.size (.cells (ofT ((n1,t1,x1),(n2,t2,x2),n3,t3,x3)).cells.toArray 67))
        have UC:=hid (UA.out.alloc (.cells (ofT ((n1,t1,x1),(n2,t2,x2),n3,t3,x3)).cells.toArray 67))
        have TC:=hid (show Blk ((w6.drew.alloc (.cells #[] 67)).alloc (.cells (ofT ((n1,t1,x1),(n2,t2,x2),n3,t3,x3)).cells.toArray 67)) (w6.heap.size+1) (ofT ((n1,t1,x1),(n2,t2,x2),n3,t3,x3)).cells 67 from blk_new2 w6 _ _ _)
        have HE0:=hid (HB6.out.drew.alloc HZ6 (.cells (ofT ((n1,t1,x1),(n2,t2,x2),n3,t3,x3)).cells.toArray 67))
        have OE:=hid (show ((w6.drew.alloc (.cells (ofT ((n1,t1,x1),(n2,t2,x2),n3,t3,x3)).cells.toArray 67)).alloc (.cells #[] 67)).ownsRow wb.heap.size 67 9 (.slice (some ⟨w6.heap.size+1,0,none⟩) 0 0) 0 [] from made_own2 w6 wb.heap.size _ HZ6)
        have HE:=hid (HE0.out.alloc HE0.out.size (.cells #[] 67))
        have UE:=hid (show Blk ((w6.drew.alloc (.cells (ofT ((n1,t1,x1),(n2,t2,x2),n3,t3,x3)).cells.toArray 67)).alloc (.cells #[] 67)) w.heap.size [.int .i64 (n1:Nat),str t1,str x1,.int .i64 (n2:Nat),str t2,str x2,.int .i64 (n3:Nat),str t3,str x3] 67 from (HU6.out.alloc _).alloc _)
        have TE:=hid (show Blk ((w6.drew.alloc (.cells (ofT ((n1,t1,x1),(n2,t2,x2),n3,t3,x3)).cells.toArray 67)).alloc (.cells #[] 67)) w6.heap.size (ofT ((n1,t1,x1),(n2,t2,x2),n3,t3,x3)).cells 67 from (blk_new1 w6 _).alloc _)
        have d0:=HU6.out.cell (i:=0) rfl
        have d1:=HU6.out.cell (i:=1) rfl
        have d2:=HU6.out.cell (i:=2) rfl
        have d3:=HU6.out.cell (i:=3) rfl
        have d4:=HU6.out.cell (i:=4) rfl
        have d5:=HU6.out.cell (i:=5) rfl
        have d6:=HU6.out.cell (i:=6) rfl
        have d7:=HU6.out.cell (i:=7) rfl
        have d8:=HU6.out.cell (i:=8) rfl
        go_upto_region 6 with fail
        go_region_law (first
         | (refine step_append_opt (by rfl) (.tmp 35) (.tmp 38) 39 (by rfl) wb.heap.size 67 iS _ 9 120 Tryz.underlying39 hi0 hzS hszS hbyS rfl (by decide) (.slice (some ⟨w6.heap.size,0,none⟩) 0 0) 0 [] (by rfl) OA.out (some ⟨bl,off,none⟩) cap cap (rowCells (L.take cap)) (by rfl) NIL1.out LEN1.out (F1.out _ HA.out) (rowCells_one _) ?b1 ?b2 ?b3 ?_
            case b1=>(unfold maxLen;omega)
            case b2=>omega
            case b3=>exact HA.out.size
            intro v1 w1 g1 g2 g3
            have G1:=hid g1
            have HBx1:=hid (HA.out.grown g2 HA.out.size (fun k hk=>(OA.out.lt k hk).1))
            have HUx1:=hid (blk_grown UA.out g2 (fun e=>by have:=(OA.out.lt _ e).1;omega))
            have k0:=HUx1.out.cell (i:=0) rfl
            have k1:=HUx1.out.cell (i:=1) rfl
            have k2:=HUx1.out.cell (i:=2) rfl
            have k3:=HUx1.out.cell (i:=3) rfl
            have k4:=HUx1.out.cell (i:=4) rfl
            have k5:=HUx1.out.cell (i:=5) rfl
            have k6:=HUx1.out.cell (i:=6) rfl
            have k7:=HUx1.out.cell (i:=7) rfl
            have k8:=HUx1.out.cell (i:=8) rfl
            clear g1 g2 g3)
         | (refine step_append_opt (by rfl) (.tmp 35) (.tmp 38) 39 (by rfl) wb.heap.size 67 iS _ 9 120 Tryz.underlying39 hi0 hzS hszS hbyS rfl (by decide) (.slice (some ⟨w6.heap.size,0,none⟩) 0 0) 0 [] (by rfl) OC.out (some ⟨bl,off,none⟩) cap cap (rowCells (L.take cap)) (by rfl) NIL1.out LEN1.out (F1.out _ HC.out) (rowCells_one _) ?b1 ?b2 ?b3 ?_
            case b1=>(unfold maxLen;omega)
            case b2=>omega
            case b3=>exact HC.out.size
            intro v1 w1 g1 g2 g3
            have G1:=hid g1
            have HBx1:=hid (HC.out.grown g2 HC.out.size (fun k hk=>(OC.out.lt k hk).1))
            have HUx1:=hid (blk_grown UC.out g2 (fun e=>by have:=(OC.out.lt _ e).1;omega))
            have HTC:=hid (blk_grown TC.out g2 (fun e=>by simp [Value.ownBlock] at e))
            have k0:=HUx1.out.cell (i:=0) rfl
            have k1:=HUx1.out.cell (i:=1) rfl
            have k2:=HUx1.out.cell (i:=2) rfl
            have k3:=HUx1.out.cell (i:=3) rfl
            have k4:=HUx1.out.cell (i:=4) rfl
            have k5:=HUx1.out.cell (i:=5) rfl
            have k6:=HUx1.out.cell (i:=6) rfl
            have k7:=HUx1.out.cell (i:=7) rfl
            have k8:=HUx1.out.cell (i:=8) rfl
            clear g1 g2 g3)
         | (refine step_append_opt (by rfl) (.tmp 35) (.tmp 38) 39 (by rfl) wb.heap.size 67 iS _ 9 120 Tryz.underlying39 hi0 hzS hszS hbyS rfl (by decide) (.slice (some ⟨w6.heap.size+1,0,none⟩) 0 0) 0 [] (by rfl) OE.out (some ⟨bl,off,none⟩) cap cap (rowCells (L.take cap)) (by rfl) NIL1.out LEN1.out (F1.out _ HE.out) (rowCells_one _) ?b1 ?b2 ?b3 ?_
            case b1=>(unfold maxLen;omega)
            case b2=>omega
            case b3=>exact HE.out.size
            intro v1 w1 g1 g2 g3
            have G1:=hid g1
            have HBx1:=hid (HE.out.grown g2 HE.out.size (fun k hk=>(OE.out.lt k hk).1))
            have HUx1:=hid (blk_grown UE.out g2 (fun e=>by have:=(OE.out.lt _ e).1;omega))
            have HTE:=hid (blk_grown TE.out g2 (fun e=>by simp [Value.ownBlock] at e))
            have k0:=HUx1.out.cell (i:=0) rfl
            have k1:=HUx1.out.cell (i:=1) rfl
            have k2:=HUx1.out.cell (i:=2) rfl
            have k3:=HUx1.out.cell (i:=3) rfl
            have k4:=HUx1.out.cell (i:=4) rfl
            have k5:=HUx1.out.cell (i:=5) rfl
            have k6:=HUx1.out.cell (i:=6) rfl
            have k7:=HUx1.out.cell (i:=7) rfl
            have k8:=HUx1.out.cell (i:=8) rfl
            clear g1 g2 g3)
         | (refine step_append_opt (by rfl) (.tmp 39) (.tmp 41) 39 (by rfl) wb.heap.size 67 iS _ 9 120 Tryz.underlying39 hi0 hzS hszS hbyS rfl (by decide) v1 (0+cap) ([]++(rowCells (L.take cap))) (by rfl) (G1.out.alloc _) (some ⟨w1.heap.size,0,none⟩) 1 1 (ofT ((n1,t1,x1),(n2,t2,x2),n3,t3,x3)).cells (by rfl) (fun h=>by cases h) rfl (news9 w1 ((n1,t1,x1),(n2,t2,x2),n3,t3,x3)) (tri_one ((n1,t1,x1),(n2,t2,x2),n3,t3,x3)) ?b1 ?b2 ?b3 ?_
            case b1=>(unfold maxLen;omega)
            case b2=>omega
            case b3=>exact (HBx1.out.alloc HBx1.out.size _).size
            intro v2 w2 g1 g2 g3
            have G2:=hid g1
            have HBx2:=hid ((HBx1.out.alloc HBx1.out.size _).grown g2 (HBx1.out.alloc HBx1.out.size _).size (fun k hk=>(G1.out.lt k hk).1))
            clear g1 g2 g3)
         | (refine step_append_opt (by rfl) (.tmp 39) (.tmp 41) 39 (by rfl) wb.heap.size 67 iS _ 9 120 Tryz.underlying39 hi0 hzS hszS hbyS rfl (by decide) v1 (0+cap) ([]++(rowCells (L.take cap))) (by rfl) G1.out (some ⟨w6.heap.size+1,0,none⟩) 1 1 (ofT ((n1,t1,x1),(n2,t2,x2),n3,t3,x3)).cells (by rfl) (fun h=>by cases h) rfl (blk_src HTC.out) (tri_one ((n1,t1,x1),(n2,t2,x2),n3,t3,x3)) ?b1 ?b2 ?b3 ?_
            case b1=>(unfold maxLen;omega)
            case b2=>omega
            case b3=>exact HBx1.out.size
            intro v2 w2 g1 g2 g3
            have G2:=hid g1
            have HBx2:=hid (HBx1.out.grown g2 HBx1.out.size (fun k hk=>(G1.out.lt k hk).1))
            clear g1 g2 g3)
         | (refine step_append_opt (by rfl) (.tmp 39) (.tmp 41) 39 (by rfl) wb.heap.size 67 iS _ 9 120 Tryz.underlying39 hi0 hzS hszS hbyS rfl (by decide) v1 (0+cap) ([]++(rowCells (L.take cap))) (by rfl) G1.out (some ⟨w6.heap.size,0,none⟩) 1 1 (ofT ((n1,t1,x1),(n2,t2,x2),n3,t3,x3)).cells (by rfl) (fun h=>by cases h) rfl (blk_src HTE.out) (tri_one ((n1,t1,x1),(n2,t2,x2),n3,t3,x3)) ?b1 ?b2 ?b3 ?_
            case b1=>(unfold maxLen;omega)
            case b2=>omega
            case b3=>exact HBx1.out.size
            intro v2 w2 g1 g2 g3
            have G2:=hid g1
            have HBx2:=hid (HBx1.out.grown g2 HBx1.out.size (fun k hk=>(G1.out.lt k hk).1))
            clear g1 g2 g3)
         | (refine step_append_opt (by rfl) (.tmp 42) (.tmp 45) 39 (by rfl) wb.heap.size 67 iS _ 9 120 Tryz.underlying39 hi0 hzS hszS hbyS rfl (by decide) v2 (0+cap+1) (([]++(rowCells (L.take cap)))++(ofT ((n1,t1,x1),(n2,t2,x2),n3,t3,x3)).cells) (by rfl) G2.out (some ⟨bl,off,none⟩) 0 0 (rowCells (L.drop cap)) (by rfl) NIL2.out LEN2.out (F2.out _ HBx2.out) (rowCells_one _) ?b1 ?b2 ?b3 ?_
            case b1=>(unfold maxLen;omega)
            case b2=>omega
            case b3=>exact HBx2.out.size
            intro v3 w3 g1 g2 g3
            have G3:=hid g1
            have HBx3:=hid (HBx2.out.grown g2 HBx2.out.size (fun k hk=>(G2.out.lt k hk).1))
            clear g1 g2 g3)
         | fail)
        all_goals
         have HG3:=hid (put_fin (L:=L) (t:=((n1,t1,x1),(n2,t2,x2),n3,t3,x3)) (i:=cap) G3.out FINL.out)
         go_wp2
         go_ret
         exact ⟨v3,rfl,by rw [HPT.out];exact HG3.out,HB1.out.trans (HBx3.out.mono HB1.out.size)⟩
      · have hck2:i<cap:=by omega
        have hA2:(i:Int)≤(cap:Int):=by omega
        have HF1:=hid ((HV.out.front i (by omega)).keep HB1.out)
        have HFX:=hid (show TrisAt wb (.slice (some ⟨bl,off,none⟩) i cap) ((L.take i).map ofT) by rw [List.map_take];exact HF1.out)
        have hlt1:(L.take i).length=i:=by rw [List.length_take,←HN.out];omega
        have NIL1:=hid (tris_src HFX.out).2.1
        have LEN1:=hid (show (rowCells (L.take i)).length=i*9 by rw [rowCells_len,hlt1])
        have F1:=hid (fun W (hW:Below wb.heap.size wb W)=>(tris_src (HFX.out.keep hW)).2.2)
        have HFY:=hid (show TrisAt wb (.slice (some ⟨bl,off+i*9,none⟩) 0 (cap-i)) ((L.drop i).map ofT) by rw [hde];exact ⟨_,_,rfl,Nat.zero_le _,by omega,(fun h=>by first | rfl | cases h),.inl rfl⟩)
        have NIL2:=hid (tris_src HFY.out).2.1
        have LEN2:=hid (show (rowCells (L.drop i)).length=0*9 by rw [rowCells_len,←(tris_src HFY.out).1])
        have F2:=hid (fun W (hW:Below wb.heap.size wb W)=>(tris_src (HFY.out.keep hW)).2.2)
        have FINL:=hid (show 0+i+1+0=(L.take i++((n1,t1,x1),(n2,t2,x2),n3,t3,x3)::L.drop i).length by have h:=(tris_src HFY.out).1;rw [List.length_append,List.length_cons,hlt1,←h] <;> omega)
        clear hlt1
        obtain ⟨iS,hi0,hzS,hszS,hbyS⟩:=info_tri9
        have HZ6:=HB6.out.size
        have hzb6:=HU6.out.lt
        have OA:=hid (made_own w6.drew wb.heap.size HZ6)
        have HA:=hid (HB6.out.drew.alloc HZ6 (.cells #[] 67))
        have UA:=hid (show Blk (w6.drew.alloc (.cells #[] 67)) w.heap.size [.int .i64 (n1:Nat),str t1,str x1,.int .i64 (n2:Nat),str t2,str x2,.int .i64 (n3:Nat),str t3,str x3] 67 from HU6.out.alloc _)
        have OC:=hid (OA.out.alloc (.cells (ofT ((n1,t1,x1),(n2,t2,x2),n3,t3,x3)).cells.toArray 67))
        have HC:=hid (HA.out.alloc HA.out.size (.cells (ofT ((n1,t1,x1),(n2,t2,x2),n3,t3,x3)).cells.toArray 67))
        have UC:=hid (UA.out.alloc (.cells (ofT ((n1,t1,x1),(n2,t2,x2),n3,t3,x3)).cells.toArray 67))
        have TC:=hid (show Blk ((w6.drew.alloc (.cells #[] 67)).alloc (.cells (ofT ((n1,t1,x1),(n2,t2,x2),n3,t3,x3)).cells.toArray 67)) (w6.heap.size+1) (ofT ((n1,t1,x1),(n2,t2,x2),n3,t3,x3)).cells 67 from blk_new2 w6 _ _ _)
        have HE0:=hid (HB6.out.drew.alloc HZ6 (.cells (ofT ((n1,t1,x1),(n2,t2,x2),n3,t3,x3)).cells.toArray 67))
        have OE:=hid (show ((w6.drew.alloc (.cells (ofT ((n1,t1,x1),(n2,t2,x2),n3,t3,x3)).cells.toArray 67)).alloc (.cells #[] 67)).ownsRow wb.heap.size 67 9 (.slice (some ⟨w6.heap.size+1,0,none⟩) 0 0) 0 [] from made_own2 w6 wb.heap.size _ HZ6)
        have HE:=hid (HE0.out.alloc HE0.out.size (.cells #[] 67))
        have UE:=hid (show Blk ((w6.drew.alloc (.cells (ofT ((n1,t1,x1),(n2,t2,x2),n3,t3,x3)).cells.toArray 67)).alloc (.cells #[] 67)) w.heap.size [.int .i64 (n1:Nat),str t1,str x1,.int .i64 (n2:Nat),str t2,str x2,.int .i64 (n3:Nat),str t3,str x3] 67 from (HU6.out.alloc _).alloc _)
        have TE:=hid (show Blk ((w6.drew.alloc (.cells (ofT ((n1,t1,x1),(n2,t2,x2),n3,t3,x3)).cells.toArray 67)).alloc (.cells #[] 67)) w6.heap.size (ofT ((n1,t1,x1),(n2,t2,x2),n3,t3,x3)).cells 67 from (blk_new1 w6 _).alloc _)
        have d0:=HU6.out.cell (i:=0) rfl
        have d1:=HU6.out.cell (i:=1) rfl
        have d2:=HU6.out.cell (i:=2) rfl
        have d3:=HU6.out.cell (i:=3) rfl
        have d4:=HU6.out.cell (i:=4) rfl
        have d5:=HU6.out.cell (i:=5) rfl
        have d6:=HU6.out.cell (i:=6) rfl
        have d7:=HU6.out.cell (i:=7) rfl
        have d8:=HU6.out.cell (i:=8) rfl
        go_upto_region 6 with fail
        go_region_law (first
         | (refine step_append_opt (by rfl) (.tmp 35) (.tmp 38) 39 (by rfl) wb.heap.size 67 iS _ 9 120 Tryz.underlying39 hi0 hzS hszS hbyS rfl (by decide) (.slice (some ⟨w6.heap.size,0,none⟩) 0 0) 0 [] (by rfl) OA.out (some ⟨bl,off,none⟩) i cap (rowCells (L.take i)) (by rfl) NIL1.out LEN1.out (F1.out _ HA.out) (rowCells_one _) ?b1 ?b2 ?b3 ?_
            case b1=>(unfold maxLen;omega)
            case b2=>omega
            case b3=>exact HA.out.size
            intro v1 w1 g1 g2 g3
            have G1:=hid g1
            have HBx1:=hid (HA.out.grown g2 HA.out.size (fun k hk=>(OA.out.lt k hk).1))
            have HUx1:=hid (blk_grown UA.out g2 (fun e=>by have:=(OA.out.lt _ e).1;omega))
            have k0:=HUx1.out.cell (i:=0) rfl
            have k1:=HUx1.out.cell (i:=1) rfl
            have k2:=HUx1.out.cell (i:=2) rfl
            have k3:=HUx1.out.cell (i:=3) rfl
            have k4:=HUx1.out.cell (i:=4) rfl
            have k5:=HUx1.out.cell (i:=5) rfl
            have k6:=HUx1.out.cell (i:=6) rfl
            have k7:=HUx1.out.cell (i:=7) rfl
            have k8:=HUx1.out.cell (i:=8) rfl
            clear g1 g2 g3)
         | (refine step_append_opt (by rfl) (.tmp 35) (.tmp 38) 39 (by rfl) wb.heap.size 67 iS _ 9 120 Tryz.underlying39 hi0 hzS hszS hbyS rfl (by decide) (.slice (some ⟨w6.heap.size,0,none⟩) 0 0) 0 [] (by rfl) OC.out (some ⟨bl,off,none⟩) i cap (rowCells (L.take i)) (by rfl) NIL1.out LEN1.out (F1.out _ HC.out) (rowCells_one _) ?b1 ?b2 ?b3 ?_
            case b1=>(unfold maxLen;omega)
            case b2=>omega
            case b3=>exact HC.out.size
            intro v1 w1 g1 g2 g3
            have G1:=hid g1
            have HBx1:=hid (HC.out.grown g2 HC.out.size (fun k hk=>(OC.out.lt k hk).1))
            have HUx1:=hid (blk_grown UC.out g2 (fun e=>by have:=(OC.out.lt _ e).1;omega))
            have HTC:=hid (blk_grown TC.out g2 (fun e=>by simp [Value.ownBlock] at e))
            have k0:=HUx1.out.cell (i:=0) rfl
            have k1:=HUx1.out.cell (i:=1) rfl
            have k2:=HUx1.out.cell (i:=2) rfl
            have k3:=HUx1.out.cell (i:=3) rfl
            have k4:=HUx1.out.cell (i:=4) rfl
            have k5:=HUx1.out.cell (i:=5) rfl
            have k6:=HUx1.out.cell (i:=6) rfl
            have k7:=HUx1.out.cell (i:=7) rfl
            have k8:=HUx1.out.cell (i:=8) rfl
            clear g1 g2 g3)
         | (refine step_append_opt (by rfl) (.tmp 35) (.tmp 38) 39 (by rfl) wb.heap.size 67 iS _ 9 120 Tryz.underlying39 hi0 hzS hszS hbyS rfl (by decide) (.slice (some ⟨w6.heap.size+1,0,none⟩) 0 0) 0 [] (by rfl) OE.out (some ⟨bl,off,none⟩) i cap (rowCells (L.take i)) (by rfl) NIL1.out LEN1.out (F1.out _ HE.out) (rowCells_one _) ?b1 ?b2 ?b3 ?_
            case b1=>(unfold maxLen;omega)
            case b2=>omega
            case b3=>exact HE.out.size
            intro v1 w1 g1 g2 g3
            have G1:=hid g1
            have HBx1:=hid (HE.out.grown g2 HE.out.size (fun k hk=>(OE.out.lt k hk).1))
            have HUx1:=hid (blk_grown UE.out g2 (fun e=>by have:=(OE.out.lt _ e).1;omega))
            have HTE:=hid (blk_grown TE.out g2 (fun e=>by simp [Value.ownBlock] at e))
            have k0:=HUx1.out.cell (i:=0) rfl
            have k1:=HUx1.out.cell (i:=1) rfl
            have k2:=HUx1.out.cell (i:=2) rfl
            have k3:=HUx1.out.cell (i:=3) rfl
            have k4:=HUx1.out.cell (i:=4) rfl
            have k5:=HUx1.out.cell (i:=5) rfl
            have k6:=HUx1.out.cell (i:=6) rfl
            have k7:=HUx1.out.cell (i:=7) rfl
            have k8:=HUx1.out.cell (i:=8) rfl
            clear g1 g2 g3)
         | (refine step_append_opt (by rfl) (.tmp 39) (.tmp 41) 39 (by rfl) wb.heap.size 67 iS _ 9 120 Tryz.underlying39 hi0 hzS hszS hbyS rfl (by decide) v1 (0+i) ([]++(rowCells (L.take i))) (by rfl) (G1.out.alloc _) (some ⟨w1.heap.size,0,none⟩) 1 1 (ofT ((n1,t1,x1),(n2,t2,x2),n3,t3,x3)).cells (by rfl) (fun h=>by cases h) rfl (news9 w1 ((n1,t1,x1),(n2,t2,x2),n3,t3,x3)) (tri_one ((n1,t1,x1),(n2,t2,x2),n3,t3,x3)) ?b1 ?b2 ?b3 ?_
            case b1=>(unfold maxLen;omega)
            case b2=>omega
            case b3=>exact (HBx1.out.alloc HBx1.out.size _).size
            intro v2 w2 g1 g2 g3
            have G2:=hid g1
            have HBx2:=hid ((HBx1.out.alloc HBx1.out.size _).grown g2 (HBx1.out.alloc HBx1.out.size _).size (fun k hk=>(G1.out.lt k hk).1))
            clear g1 g2 g3)
         | (refine step_append_opt (by rfl) (.tmp 39) (.tmp 41) 39 (by rfl) wb.heap.size 67 iS _ 9 120 Tryz.underlying39 hi0 hzS hszS hbyS rfl (by decide) v1 (0+i) ([]++(rowCells (L.take i))) (by rfl) G1.out (some ⟨w6.heap.size+1,0,none⟩) 1 1 (ofT ((n1,t1,x1),(n2,t2,x2),n3,t3,x3)).cells (by rfl) (fun h=>by cases h) rfl (blk_src HTC.out) (tri_one ((n1,t1,x1),(n2,t2,x2),n3,t3,x3)) ?b1 ?b2 ?b3 ?_
            case b1=>(unfold maxLen;omega)
            case b2=>omega
            case b3=>exact HBx1.out.size
            intro v2 w2 g1 g2 g3
            have G2:=hid g1
            have HBx2:=hid (HBx1.out.grown g2 HBx1.out.size (fun k hk=>(G1.out.lt k hk).1))
            clear g1 g2 g3)
         | (refine step_append_opt (by rfl) (.tmp 39) (.tmp 41) 39 (by rfl) wb.heap.size 67 iS _ 9 120 Tryz.underlying39 hi0 hzS hszS hbyS rfl (by decide) v1 (0+i) ([]++(rowCells (L.take i))) (by rfl) G1.out (some ⟨w6.heap.size,0,none⟩) 1 1 (ofT ((n1,t1,x1),(n2,t2,x2),n3,t3,x3)).cells (by rfl) (fun h=>by cases h) rfl (blk_src HTE.out) (tri_one ((n1,t1,x1),(n2,t2,x2),n3,t3,x3)) ?b1 ?b2 ?b3 ?_
            case b1=>(unfold maxLen;omega)
            case b2=>omega
            case b3=>exact HBx1.out.size
            intro v2 w2 g1 g2 g3
            have G2:=hid g1
            have HBx2:=hid (HBx1.out.grown g2 HBx1.out.size (fun k hk=>(G1.out.lt k hk).1))
            clear g1 g2 g3)
         | (refine step_append_opt (by rfl) (.tmp 42) (.tmp 45) 39 (by rfl) wb.heap.size 67 iS _ 9 120 Tryz.underlying39 hi0 hzS hszS hbyS rfl (by decide) v2 (0+i+1) (([]++(rowCells (L.take i)))++(ofT ((n1,t1,x1),(n2,t2,x2),n3,t3,x3)).cells) (by rfl) G2.out (some ⟨bl,off+i*9,none⟩) 0 (cap-i) (rowCells (L.drop i)) (by rfl) NIL2.out LEN2.out (F2.out _ HBx2.out) (rowCells_one _) ?b1 ?b2 ?b3 ?_
            case b1=>(unfold maxLen;omega)
            case b2=>omega
            case b3=>exact HBx2.out.size
            intro v3 w3 g1 g2 g3
            have G3:=hid g1
            have HBx3:=hid (HBx2.out.grown g2 HBx2.out.size (fun k hk=>(G2.out.lt k hk).1))
            clear g1 g2 g3)
         | fail)
        all_goals
         have HG3:=hid (put_fin (L:=L) (t:=((n1,t1,x1),(n2,t2,x2),n3,t3,x3)) (i:=i) G3.out FINL.out)
         go_wp2
         go_ret
         exact ⟨v3,rfl,by rw [HPT.out];exact HG3.out,HB1.out.trans (HBx3.out.mono HB1.out.size)⟩
theorem rsort_step {L:List TR} {i:Nat} (hi:i<L.length):Tm.rsort (L.take (i+1))=Tm.put (Tm.rsort (L.take i)) L[i]:=by
 rw [List.take_add_one,List.getElem?_eq_getElem hi]
 unfold Tm.rsort
 rw [List.foldl_append];rfl
theorem rsortR_any (L:List TR) (hl:∀ t∈L,Tm.isTri t=true) (hn:L.length≤100000) (w:World) (v:Value) (hv:TrisAt w v (L.map ofT)) :
  Calls Tryz.prog 23 #[v] w fun e w'=>∃ v',e=.returned v'∧TrisAt w' v' ((Tm.rsort L).map ofT)∧Below w.heap.size w w':=by
 obtain ⟨a,cap,rfl,hc1,hc2,hc3⟩:=hv.open
 have HV:=hid hv
 have HL:=hid hl
 rw [List.length_map] at HV ⊢
 obtain ⟨n,hn0⟩:∃ n,n=L.length:=⟨_,rfl⟩
 rw [←hn0] at HV hn ⊢
 have HN:=hid hn0
 clear hv hl hc1 hc2 hc3 hn0
 go_enter Tryz.func23,Tryz.ntmps23
 go_wp2
 go_loopg [3,4] n (fun gk s3 s4 wr=>∃ (i:Nat),s4=.int .i64 i∧i≤n∧n-i≤gk∧Hid (Below w.heap.size w wr)∧Hid (TrisAt wr s3 ((Tm.rsort (L.take i)).map ofT)))
 case atStart=>exact ⟨0,rfl,Nat.zero_le _,Nat.le_refl _,Below.refl _ _,TrisAt.nil w⟩
 case round=>
  obtain ⟨i,rfl,hin,hg,HB,HO⟩:=hrel
  by_cases hlt:i<n
  · have hltz:(i:Int)<(n:Int):=by omega
    have hiL:i<L.length:=by rw [←HN.out];exact hlt
    have HT1:=hid (HL.out L[i] (List.getElem_mem hiL))
    have HVr:=hid (HV.out.keep HB.out)
    obtain ⟨bl,off,rfl,hrow⟩:=HVr.out.get (i:=i) (by rw [List.length_map];exact hiL)
    have HRW:=hid (hrow i (by rw [List.length_map];exact hiL))
    rw [List.getElem_map] at HRW
    have HTK:=hid (rsort_step hiL)
    obtain ⟨t,ht⟩:∃ t,t=L[i]:=⟨_,rfl⟩
    rw [←ht] at HT1 HRW HTK
    have PT:=hid (rput_any (Tm.rsort (L.take i)) (Tm.rsort_tri (fun s hs=>HL.out s (List.mem_of_mem_take hs))) (by have h1:=Tm.rsort_len (L.take i);rw [List.length_take] at h1;omega) t HT1.out wr u3 HO.out)
    clear ht hrow
    obtain ⟨⟨n1,t1,x1⟩,⟨n2,t2,x2⟩,n3,t3,x3⟩:=t
    have c0:=HRW.out 0 (by omega)
    have c1:=HRW.out 1 (by omega)
    have c2:=HRW.out 2 (by omega)
    have c3:=HRW.out 3 (by omega)
    have c4:=HRW.out 4 (by omega)
    have c5:=HRW.out 5 (by omega)
    have c6:=HRW.out 6 (by omega)
    have c7:=HRW.out 7 (by omega)
    have c8:=HRW.out 8 (by omega)
    simp only [ofT,Tri.cells,List.getElem?_cons_zero,List.getElem?_cons_succ,Nat.add_zero] at c0 c1 c2 c3 c4 c5 c6 c7 c8
    go_wp2_with fail
    refine PT.out.mono ?_
    rintro e w2 ⟨v2,rfl,hv2,hlow⟩
    have HB2:=hid (below_then HB.out hlow)
    have HV2:=hid hv2
    clear hv2 hlow
    go_wp2
    go_roundg (n-(i+1))
    case measure=>omega
    case rel=>exact ⟨i+1,by go_num,by omega,by omega,HB2.out,by show TrisAt _ _ _;rw [HTK.out];exact HV2.out⟩
  · obtain rfl:i=n:=by omega
    have hltz:¬ (i:Int)<(i:Int):=by omega
    have HE:=hid (show L.take i=L by rw [HN.out];exact List.take_length)
    rw [HE.out] at HO
    go_wp2
    go_ret
    exact ⟨_,rfl,HO.out,HB.out⟩
theorem neq_tri (k1:Int) (t1 x1:List UInt8) (k2:Int) (t2 x2:List UInt8) (k3:Int) (t3 x3:List UInt8) (w:World) :
  (binOp .neq 67 (triV k1 t1 x1 k2 t2 x2 k3 t3 x3) (triV k1 t1 x1 k2 t2 x2 k3 t3 x3)).run Tryz.prog w=.ok (.bool false) w:=by
 simp [go_sem]
theorem rsame_any (L:List Tri) (w:World) (v1 v2:Value) (h1:TrisAt w v1 L) (h2:TrisAt w v2 L) (hn:L.length≤100000) :
  Calls Tryz.prog 41 #[v1,v2] w fun e w'=>e=.returned (.bool true)∧∃ q,w'=w.drewN q:=by
 obtain ⟨a,cap,rfl,_⟩:=h1.open
 obtain ⟨b,cap2,rfl,_⟩:=h2.open
 have HV:=hid h1
 have HW:=hid h2
 obtain ⟨n,hn0⟩:∃ n,n=L.length:=⟨_,rfl⟩
 rw [←hn0] at HV HW hn ⊢
 have HN:=hid hn0
 clear h1 h2 hn0
 go_enter Tryz.func41,Tryz.ntmps41
 go_wp2
 go_loopg [5] n (fun gk s5 wr=>∃ (i:Nat),s5=.int .i64 i∧i≤n∧n-i≤gk∧∃ m,wr=w.drewN m)
 case atStart=>exact ⟨0,rfl,Nat.zero_le _,Nat.le_refl _,0,rfl⟩
 case round=>
  obtain ⟨i,rfl,hin,hg,m,rfl⟩:=hrel
  by_cases hlt:i<n
  · have hltz:(i:Int)<(n:Int):=by omega
    have hiL:i<L.length:=by rw [←HN.out];exact hlt
    obtain ⟨bl,off,rfl,hrow⟩:=HV.out.get (i:=i) hiL
    obtain ⟨bm,ofm,rfl,hrow2⟩:=HW.out.get (i:=i) hiL
    have HRW:=hid (hrow i hiL)
    have HRX:=hid (hrow2 i hiL)
    clear hrow hrow2
    obtain ⟨t,ht⟩:∃ t,t=L[i]:=⟨_,rfl⟩
    rw [←ht] at HRW HRX
    clear ht
    obtain ⟨k1,t1,x1,k2,t2,x2,k3,t3,x3⟩:=t
    have EQ:=fun W=>neq_tri k1 t1 x1 k2 t2 x2 k3 t3 x3 W
    have c0:=HRW.out 0 (by omega)
    have c1:=HRW.out 1 (by omega)
    have c2:=HRW.out 2 (by omega)
    have c3:=HRW.out 3 (by omega)
    have c4:=HRW.out 4 (by omega)
    have c5:=HRW.out 5 (by omega)
    have c6:=HRW.out 6 (by omega)
    have c7:=HRW.out 7 (by omega)
    have c8:=HRW.out 8 (by omega)
    have d0:=HRX.out 0 (by omega)
    have d1:=HRX.out 1 (by omega)
    have d2:=HRX.out 2 (by omega)
    have d3:=HRX.out 3 (by omega)
    have d4:=HRX.out 4 (by omega)
    have d5:=HRX.out 5 (by omega)
    have d6:=HRX.out 6 (by omega)
    have d7:=HRX.out 7 (by omega)
    have d8:=HRX.out 8 (by omega)
    simp only [Tri.cells,List.getElem?_cons_zero,List.getElem?_cons_succ,Nat.add_zero] at c0 c1 c2 c3 c4 c5 c6 c7 c8 d0 d1 d2 d3 d4 d5 d6 d7 d8
    go_wp2
    go_quiet (fail)
    go_wp2
    go_roundg (n-(i+1))
    case measure=>omega
    case rel=>exact ⟨i+1,by go_num,by omega,by omega,_,rfl⟩
  · obtain rfl:i=n:=by omega
    have hltz:¬ (i:Int)<(i:Int):=by omega
    go_wp2
    go_ret
    exact ⟨rfl,_,rfl⟩
end Go.Proofs.YtjaebndajhppgaaGreatDoor
