/-SoREnc-/
import Derived.Test.YtjaebndajhppgaaGreatDoorMnSoOf
import Derived.Test.YtjaebndajhppgaaGreatDoorMnSoEnc2
import Derived.Test.YtjaebndajhppgaaGreatDoorMnGRe1
import Derived.Test.YtjaebndajhppgaaGreatDoorMnGRe2
import Derived.Test.YtjaebndajhppgaaGreatDoorMnGRe3
import Derived.Deep.RegionLaw
import Derived.Deep.RegionHeld3
set_option linter.unusedVariables false
set_option linter.unusedSimpArgs false
set_option maxRecDepth 100000
set_option maxHeartbeats 8000000
namespace Go.Proofs.YtjaebndajhppgaaGreatDoor
open Go.ChangeShapes Go.WideShapes Go.ChangeAt Go.RowKit Go.Sort
theorem Cc {w:World} {base:Nat} {v:Value} {N:Nat} {l:List Nat} (h:w.ownsRow base 5 1 v N (l.map aF)) (hn:N=l.length):∃ a c,v=.slice a N c∧Hid (BytesAt w (.slice a N c) l):=by have hy:BytesAt w v l:=bf.own h hn;have HY:=hid hy;subst hn;obtain ⟨a,c,rfl,_⟩:=hy;exact ⟨a,c,rfl,HY⟩
theorem QI {w:World} {base:Nat} {v:Value} {N:Nat} {xs ys:List Value} (h:w.ownsRow base 5 1 v N xs) (e:xs=ys):w.ownsRow base 5 1 v N ys:=e ▸ h
theorem QJ {w:World} {base:Nat} {v:Value} {N:Nat} {l:List Nat} (h:w.ownsRow base 5 1 v N (l.map aF)) (hn:N=l.length):Hid (BytesAt w v l):=hid (bf.own h hn)
theorem ad8 {W w:World} {o:Obj} {v:Value} {n:Nat} {xs:List Value} {t:TypeId} (h:w.ownsRow (W.alloc o).drew.heap.size t 1 v n xs):(Value.slice (some ⟨W.heap.size,0,none⟩) 2 2).ownBlock≠v.ownBlock:=fun e=>by
 have h1:=(h.lt W.heap.size e.symm).1;have h2:(W.alloc o).drew.heap.size=W.heap.size+1:=by simp
 omega
theorem ad9 (L:List TR) (hl:∀ t∈L,Tm.aN t=true) (hn:L.length≤100) (p:Nat) (w:World) (h:yA w p L) :
  Calls Tryz.prog 45 #[.pointer (some ⟨p,0,none⟩)] w fun e w'=>∃ v,e=.returned v∧w'.ownsRow w.heap.size 5 1 v (So.file L).length ((So.file L).map aF)∧Below w.heap.size w w':=by
 have H:=hid h;obtain ⟨vt,ve,vs,vi,h1,h2,h3,h4,h5⟩:=h;have PK:=hid (fun W a n cap (hR:bW W a n fun i=>.int .i64 ((So.eT L).getD i 0)) (e:n=3*L.length)=>adT a n cap (So.wid L) (So.eT L) W (by rw [e,So.oQ]) (So.G_ hn) hR);have RB:=hid (fun (v:Value) (W:World) (h:iR W v (So.texts L))=>adV v (So.texts L) W h (So.uT hl hn));have BP:=hid (fun (a:Option Addr) (cap:Nat) (W:World) (h:fU W (.slice a 2 cap) (So.secs L))=>ad5 a 2 cap (So.secs L) W rfl h (by omega) (by have h1:=So.P_ hl hn;have h2:=So.Qa hn;show (So.jP L).length+((So.fJ L).length+0)≤90000;omega) (So.r_ hl hn) (So.sj hl hn));have H4:=hid (show iR w vs (So.texts L) from h4);have H5:=hid h5;obtain ⟨ai,ci,rfl,_,_,_⟩:=h5.open;obtain ⟨ae,ce,rfl,_,_,_⟩:=h3.open;obtain ⟨Ii,Ij,rfl,_,_,_,_⟩:=h4.open;rw [List.length_map] at h1;rw [So.fO] at h1;obtain ⟨m,hm⟩:∃ m,m=(So.terms L).length:=⟨_,rfl⟩;have WD:=hid (fun W=>Qw (m:Int) W (by have:=So.lH L;omega));have Hy:=hid (show So.wid L=Bn.width m by rw [hm];rfl);rw [Int.toNat_natCast,←Hy.out] at WD;have FE:=hid (show (So.texts L).length=m by rw [hm];unfold So.texts;rw [List.length_map]);rw [List.length_map] at H4;rw [So.fO] at H5;obtain ⟨k,hk⟩:∃ k,k=L.length:=⟨_,rfl⟩;rw [←hm,←hk] at h1;rw [←hm] at H4;rw [←hk] at H5;have HK:=hid hk;have BR:k≤100:=by omega
 have HP:=hid h1;clear h1 h2 h3 h4 h5 hm hk;go_enter Tryz.func45,Tryz.ntmps45;go_wp2;go_loopg [3,4] k (fun gk s3 s4 wr=>∃ i:Nat,s4=.int .i64 i∧i≤k∧k-i≤gk∧Hid (Below w.heap.size w wr)∧Hid (wr.ownsRow w.heap.size 3 1 s3 (3*i) ((((So.ids L).take i).flatMap So.eZ).map gF)))
 case atStart=>exact ⟨0,rfl,Nat.zero_le _,Nat.le_refl _,hid (Below.refl _ _),hid (World.ownsRow_nil _ _ _ _)⟩
 case round=>
  obtain ⟨i,rfl,hik,hg,HB,HR⟩:=hrel;have uY:=hid (HP.out.keep HB.out);have e1:=uY.out.cell (i:=1) rfl;have e2:=uY.out.cell (i:=2) rfl;have e3:=uY.out.cell (i:=3) rfl;by_cases hlt:i<k
  · have hltz:(i:Int)<(k:Int):=(by omega);have aZ:i<(So.ids L).length:=(by rw [So.fO,←HK.out];exact hlt);obtain ⟨bl,off,rfl,hrow⟩:=H5.out.get aZ;have HST:=hid (Qm aZ);have b0:=hrow i aZ 0 (by omega);have b1:=hrow i aZ 1 (by omega);have b2:=hrow i aZ 2 (by omega);have b3:=HP.out.cell (i:=3) rfl;obtain ⟨t,ht⟩:∃ t,t=(So.ids L)[i]:=⟨_,rfl⟩;rw [←ht] at b0 b1 b2 HST;obtain ⟨t1,t2,t3⟩:=t;simp only [Rg.at',Nat.add_zero] at b0 b1 b2;have c0:=ak HB.out b0;have c1:=ak HB.out b1;have c2:=ak HB.out b2;clear ht hrow aZ;obtain ⟨iS,hi0,bH,bI,bJ⟩:=info_parts Tryz.soinfo3;have gH:=HB.out.size;have aH:=hid (HB.out.drew.alloc gH (.cells ((So.eZ (t1,t2,t3)).map gF).toArray 3));have mg:=hid (show (wr.drew.alloc (.cells ((So.eZ (t1,t2,t3)).map gF).toArray 3)).ownsRow w.heap.size 3 1 u3 (3*i) ((((So.ids L).take i).flatMap So.eZ).map gF) from World.ownsRow.alloc (show wr.drew.ownsRow w.heap.size 3 1 u3 (3*i) ((((So.ids L).take i).flatMap So.eZ).map gF) from HR.out) _);(go_upto_region 5 with fail);go_region_held3 (fun w'=>w'.cell? ⟨p,3,none⟩=some (.slice (some ⟨bl,off,none⟩) k ci)∧w'.cell? ⟨bl,off+i*3,none⟩=some (.int .i64 t1)∧w'.cell? ⟨bl,off+i*3+1,none⟩=some (.int .i64 t2)∧w'.cell? ⟨bl,off+i*3+2,none⟩=some (.int .i64 t3))
     (first
       | exact ⟨ak aD.out b3,ak aD.out b0,ak aD.out b1,ak aD.out b2⟩
       | exact ⟨ak aH.out b3,ak aH.out b0,ak aH.out b1,ak aH.out b2⟩
       | go_keep)
     (first
       | (refine dM (by rfl) (.tmp 18) (.tmp 43) 48 (by rfl) w.heap.size 3 iS _ 1 8 Tryz.underlying48 hi0 bH bI bJ rfl (by decide) u3 (3*i) _ (by rfl) mg.out (some ⟨wr.heap.size,0,none⟩) 3 3 ((So.eZ (t1,t2,t3)).map gF) (by rfl) (fun h=>by cases h) rfl (xQ wr.drew ((So.eZ (t1,t2,t3)).map gF) 3) (Qn _) ?b1 ?b2 ?b3 ?_
          case b1=>(unfold maxLen;omega)
          case b2=>omega
          case b3=>exact aH.out.size
          intro v8 w8 g1 g2 g3
          have aD:=hid (aH.out.grown g2 aH.out.size (fun k hk=>(mg.out.lt k hk).1))
          have ow:=hid (show w8.ownsRow w.heap.size 3 1 v8 (3*(i+1)) ((((So.ids L).take (i+1)).flatMap So.eZ).map gF) by rw [HST.out,List.map_append];exact g1)
          clear g1 g2 g3)
       | fail)
    go_wp2;go_roundg (k-(i+1))
    (case measure=>omega);case rel=>exact ⟨i+1,by go_num,by omega,by omega,aD,ow⟩
  · obtain rfl:i=k:=(by omega);have hltz:¬ (i:Int)<(i:Int):=(by omega);have hin:3*i=(So.eT L).length:=(by rw [So.oQ,HK.out]);have Hz:=hid (show wr.ownsRow w.heap.size 3 1 u3 (3*i) ((So.eT L).map gF) by have h:=HR.out;rw [show (So.ids L).take i=So.ids L from by rw [HK.out,←So.fO,List.take_length]] at h;exact h);obtain ⟨an,cn,hv4,q1,q2,q3,hrow⟩:=bf.own (f:=gF) (d:=(0:Int)) Hz.out hin;rw [←hin] at hv4 hrow;subst hv4;have BX:=hid (PK.out wr an (3*i) cn hrow (by rw [HK.out]));clear hin q1 q2 q3 hrow HR hg;go_upto_region 7 with (first
     | (go_at_call 55;refine (WD.out _).mono ?_;rintro e w2 ⟨rfl,rfl⟩)
     | (go_at_call 27;refine BX.out.mono ?_;rintro e w1 ⟨b,rfl,hb2,hb,hblk⟩;have HB2:=hid hb2;have bR:=hid hb;have iY:=hid hblk;clear hb2 hb hblk))
    have fV:=hid (aA HB.out HB2.out);obtain ⟨z,hz⟩:∃ z,z=Pm.size (3*i) (So.wid L):=⟨_,rfl⟩;rw [←hz] at iY ⊢;have HZ:=hid hz;have Qq:z≤338:=(by rw [hz,HK.out];exact So.size_le (by rw [←HK.out];exact BR));have hpk:(So.packed L).length=z:=(by rw [So.uU,←HK.out];exact hz.symm);have H8:=hid (show aj w1 b ((So.packed L).map aF) 5 by have h:=iY.out;rw [hz,HK.out,Qp] at h;exact h);have hx:#[Value.int .u8 ((i:Int) / 256),Value.int .u8 (i:Int)].toList++(So.packed L).map aF=(So.fJ L).map aF:=(by unfold So.fJ;rw [List.map_append,←HK.out];congr 1;show [Value.int .u8 ((i:Int) / 256),Value.int .u8 (i:Int)]=[Value.int .u8 ((i / 256 % 256:Nat):Int),Value.int .u8 ((i % 256:Nat):Int)];rw [show ((i / 256 % 256:Nat):Int)=(i:Int) / 256 by omega,show ((i % 256:Nat):Int)=(i:Int) by omega]);have HX:=hid hx;have QK:(So.fJ L).length=2+z:=(by unfold So.fJ;rw [List.length_append,hpk];rfl);have HL2:=hid QK;have HPK:=hid hpk;have oM:=hid (uY.out.keep HB2.out);clear hz e1 e2 e3 hx QK hpk iY;have e2:=oM.out.cell (i:=2) rfl;have e3:=oM.out.cell (i:=3) rfl;obtain ⟨iS,hi0,bH,bI,bJ⟩:=info_parts Tryz.soinfo5;obtain ⟨n1,hn1⟩:∃ n1,n1=(So.jP L).length:=⟨_,rfl⟩;have tQ:=hid hn1;have QL:=hid (show ∀ W,Below w1.heap.size w1 W→Calls Tryz.prog 29 #[.slice Ii m Ij] W fun e W'=>∃ a c,e=.returned (.slice a n1 c)∧Hid (W'.ownsRow W.heap.size 5 1 (.slice a n1 c) n1 ((So.jP L).map aF))∧Below W.heap.size W W' from fun W hB=>by refine (RB.out (.slice Ii m Ij) W (H4.out.keep (aA fV.out hB))).mono ?_;rintro e W' ⟨v,rfl,hb,ho⟩;have ho:W'.ownsRow W.heap.size 5 1 v n1 ((So.jP L).map aF):=(by rw [tQ.out];exact ho);obtain ⟨a,c,rfl,_⟩:=Cc ho tQ.out;exact ⟨a,c,rfl,hid ho,hb⟩);clear hn1;have QM:Below w1.heap.size w1 w1.drew:=(Below.refl _ _).drew;have QN:Below w1.heap.size w1 (w1.alloc (.cells #[.int .u8 ((i:Int) / 256),.int .u8 (i:Int)] 5)).drew:=((Below.refl _ _).alloc (Nat.le_refl _) _).drew;have OB:=hid (show (w1.alloc (.cells #[.int .u8 ((i:Int) / 256),.int .u8 (i:Int)] 5)).drew.ownsRow w1.heap.size 5 1 (.slice (some ⟨w1.heap.size,0,none⟩) 2 2) 2 #[Value.int .u8 ((i:Int) / 256),Value.int .u8 (i:Int)].toList from yD w1 5 #[.int .u8 ((i:Int) / 256),.int .u8 (i:Int)] 2 rfl (by unfold maxLen;omega) rfl);have QO:=hid (fun W (hB:Below w1.heap.size w1 W) ad (had:(some ⟨b,0,none⟩:Option Addr)=some ad) j u (hu:((So.packed L).map aF)[j]?=some u)=>(by cases had;rw [iF rfl,Nat.zero_add];exact (H8.out.keep hB).cell hu:W.cell? (ad.add j)=some u));have ONE:=hid (show ∀ u∈(So.packed L).map aF,u.oneCell'=true from fun u hu=>by obtain ⟨x,_,rfl⟩:=List.mem_map.1 hu;rfl);have QS:=hid (show ((So.packed L).map aF).length=z*1 by rw [List.length_map,HPK.out,Nat.mul_one]);have hw1:IntKind.u8.wrap ((i:Int) / 256)=(i:Int) / 256:=IntWalk.u8_in _ ⟨by omega,by omega⟩;have hw2:IntKind.u8.wrap (i:Int)=(i:Int):=IntWalk.u8_in _ ⟨by omega,by omega⟩;have hq1:2+z≤maxLen:=(by unfold maxLen;omega);have hq2:(2+z)*1≤140737488355328:=(by omega);clear RB PK BX WD;go_region_held3 (fun w'=>w'.cell? ⟨p,2,none⟩=some (.slice Ii m Ij)∧w'.cell? ⟨p,3,none⟩=some (.slice ai i ci))
     (first
       | exact ⟨ak hbD e2,ak hbD e3⟩
       | exact ⟨ak hbC e2,ak hbC e3⟩
       | go_keep)
     (first
       | (go_at_call 29;with_reducible refine (QL.out _ QM).mono ?_;rintro e w2 ⟨a2,c2,rfl,jl,hb2⟩;have kH:=QJ jl.out tQ.out;have hbC:=aA QM hb2;have SA:=hid (show w2.heap.size≤(w2.alloc (.cells #[.int .u8 ((i:Int) / 256),.int .u8 (i:Int)] 5)).heap.size by simp);have OA:=hid (yD w2 5 #[.int .u8 ((i:Int) / 256),.int .u8 (i:Int)] 2 rfl (by unfold maxLen;omega) rfl))
       | (go_at_call 29;with_reducible refine (QL.out _ QN).mono ?_;rintro e w2 ⟨a2,c2,rfl,jl,hb2⟩;have hbC:=aA QN hb2;have QT:=hid (BN OB.out hb2))
       | (refine dM (by rfl) (.tmp 76) (.tmp 77) 32 (by rfl) w2.heap.size 5 iS _ 1 1 Tryz.underlying32 hi0 bH bI bJ rfl (by decide) (.slice (some ⟨w2.heap.size,0,none⟩) 2 2) 2 _ (by rfl) OA.out (some ⟨b,0,none⟩) z z ((So.packed L).map aF) (by rfl) (fun h=>by cases h) QS.out (QO.out _ (hbC.alloc hbC.size _)) ONE.out hq1 hq2 SA.out ?_
          intro v3 w3 g1 g2 g3
          have hb3:=((Below.refl w2.heap.size w2).alloc (Nat.le_refl _) _).grown g2 (by simp) (fun k hk=>(OA.out.lt k hk).1)
          have hbD:=aA hbC hb3
          have lC:=hid (kH.out.keep hb3)
          obtain ⟨a3,c3,rfl,nV⟩:=Cc (QI g1 HX.out) HL2.out.symm
          have B_:=hid (H9 (aj.new w3 [.int .i64 1,.slice a2 n1 c2,.int .i64 2,.slice a3 (2+z) c3] 56) (lC.out.keep ((Below.refl _ _).alloc (Nat.le_refl _) _)) (nV.out.keep ((Below.refl _ _).alloc (Nat.le_refl _) _)))
          clear g1 g2 g3)
       | (refine dM (by rfl) (.tmp 76) (.tmp 77) 32 (by rfl) w1.heap.size 5 iS _ 1 1 Tryz.underlying32 hi0 bH bI bJ rfl (by decide) (.slice (some ⟨w1.heap.size,0,none⟩) 2 2) 2 _ (by rfl) QT.out (some ⟨b,0,none⟩) z z ((So.packed L).map aF) (by rfl) (fun h=>by cases h) QS.out (QO.out _ hbC) ONE.out hq1 hq2 hbC.size ?_
          intro v3 w3 g1 g2 g3
          have hbD:=hbC.grown g2 hbC.size (fun k hk=>(QT.out.lt k hk).1)
          have lC:=QJ (Apart.kept (Or.inr (Or.inr (ad8 jl.out))) jl.out g2) tQ.out
          obtain ⟨a3,c3,rfl,nV⟩:=Cc (QI g1 HX.out) HL2.out.symm
          have B_:=hid (H9 (aj.new w3 [.int .i64 1,.slice a2 n1 c2,.int .i64 2,.slice a3 (2+z) c3] 56) (lC.out.keep ((Below.refl _ _).alloc (Nat.le_refl _) _)) (nV.out.keep ((Below.refl _ _).alloc (Nat.le_refl _) _)))
          clear g1 g2 g3)
       | (go_at_call 28;with_reducible refine (BP.out _ _ _ B_.out).mono ?_;rintro e w4 ⟨v4,rfl,hb4,nA⟩;have Ik:=hbD;have hbD:=aA (Ik.alloc Ik.size _) hb4;have lK:=hid nA)
       | fail)
    all_goals
     go_wp2
     go_ret
     have oq:=aA fV.out hbD
     have hsz:=(aA fV.out Ik).size
     have ho:=lK.out
     rw [show Bx.total (So.secs L)=(So.file L).length from by unfold So.file;rw [Bx.jO]] at ho
     exact ⟨_,rfl,yL ho (by simp;omega),oq⟩
end Go.Proofs.YtjaebndajhppgaaGreatDoor
