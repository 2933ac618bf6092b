/-GRg7-/
import Derived.Test.YtjaebndajhppgaaGreatDoorMnGRe2
import Derived.Deep.DeepCutAuto
import Derived.Lib.SliceRun
import Derived.Deep.RegionLaw
import Derived.Test.YtjaebndajhppgaaGreatDoorMnSoOf
import Derived.Deep.RegionHeld3
import Derived.Test.YtjaebndajhppgaaGreatDoorMnSoClone
import Derived.Test.YtjaebndajhppgaaGreatDoorMnGRg6
import Derived.Test.YtjaebndajhppgaaGreatDoorMnGRg5
import Derived.Test.YtjaebndajhppgaaGreatDoorMnGTm1
import Derived.Deep.SlicePairs
set_option linter.unusedVariables false
set_option maxRecDepth 100000
set_option linter.unusedSimpArgs false
set_option maxHeartbeats 8000000
namespace Go.Proofs.YtjaebndajhppgaaGreatDoor
open Go Go.ChangeShapes Go.WideShapes Go.ChangeAt Go.RowKit
theorem rcsum_any (v:Value) (l:List Nat) (w:World) (hR:BytesAt w v l) (hb:∀ i,l.getD i 0<256) :
  Calls Tryz.prog 70 #[v] w fun e w'=>e=.returned (.int .i64 (Cr.sum l:Nat))∧w=w':=by
 obtain ⟨a,cap,rfl,h1,h2,h3,hr⟩:=hR
 obtain ⟨n,hn⟩:∃ n,n=l.length:=⟨_,rfl⟩
 rw [←hn] at h1 hr ⊢
 have hnm:n≤9223372036854775807:=by unfold maxLen at h2;omega
 have HN:=hid hn
 have HR:=hid hr
 have HB:=hid hb
 clear hn hr hb h3
 go_enter Tryz.func70,Tryz.ntmps70
 go_wp2
 go_loop [3,4] (fun s3 s4=>∃ i:Nat,i≤n∧s3=.int .i64 (Cr.sum (l.take i):Nat)∧s4=.int .i64 i) (fun _ s4=>n-(intOf s4).toNat)
 case atStart=>exact ⟨0,by omega,rfl,rfl⟩
 case round=>
  obtain ⟨i,hi,rfl,rfl⟩:=hrel
  by_cases hlt:i<n
  · obtain ⟨b,off,rfl,hc⟩:=HR.out.get hlt
    have c0:=hc i hlt
    have hcb:=HB.out i
    have hs0:=Cr.sum_lt _ (Cr.take_lt i HB.out)
    have HT:=hid (Cr.run_take Cr.start l i (by rw [←HN.out];exact hlt))
    obtain ⟨c,hc0⟩:∃ c,c=l.getD i 0:=⟨_,rfl⟩
    obtain ⟨s,hs1⟩:∃ s,s=Cr.sum (l.take i):=⟨_,rfl⟩
    rw [show Cr.run Cr.start (l.take i)=s from hs1.symm,←hc0] at HT
    rw [←hs1] at hs0 ⊢
    rw [←hc0] at hcb c0
    simp only [u8v] at c0
    obtain ⟨x0,hx0⟩:∃ x,x=s ^^^ (65536*c):=⟨_,rfl⟩
    have hx16:=Cr.xor16 s c hs0 hcb
    have hlt2:x0<2 ^ 24:=by rw [hx0];exact Cr.in_lt s c hs0 hcb
    have HST:=hid (show Cr.sum (l.take (i+1))=Cr.Tn 8 x0 by rw [hx0];exact HT.out)
    rw [←hx0] at hx16
    have HL:=hid (fun k=>Cr.Tn_lt k x0 hlt2)
    clear hc hs1 hc0 hx0 hlt2 HT
    go_wp2
    go_loop [3,5] (fun s3 s5=>∃ k:Nat,k≤8∧s3=.int .i64 (Cr.Tn k x0:Nat)∧s5=.int .i64 k) (fun _ s5=>8-(intOf s5).toNat)
    case atStart=>exact ⟨0,by omega,rfl,rfl⟩
    case round=>
     obtain ⟨k,hk,rfl,rfl⟩:=hrel
     have hx:=HL.out k
     have hT:Cr.Tn (k+1) x0=Cr.T (Cr.Tn k x0):=rfl
     by_cases hkl:k<8
     · obtain ⟨x,hx0⟩:∃ x,x=Cr.Tn k x0:=⟨_,rfl⟩
       rw [←hx0] at hx hT ⊢
       have hx24:x<16777216:=hx
       have hxg:=Cr.xorG x hx24
       have htop:=Cr.top x hx24
       by_cases h:8388608≤x
       · have hT2:Cr.Tn (k+1) x0=(2*x) ^^^ 25578747:=by rw [hT];unfold Cr.T;rw [htop,decide_eq_true h];rfl
         obtain ⟨y,hy⟩:∃ y,y=(2*x) ^^^ 25578747:=⟨_,rfl⟩
         rw [←hy] at hxg hT2
         have HT:=hid hT2
         have hge:decide ((16777216:Int)≤(x:Int)*2)=true:=by rw [decide_eq_true_iff];omega
         clear hT hT2 hx0 htop hy hx h hs0 hcb
         go_wp2
         go_round
         case rel=>exact ⟨k+1,by omega,by rw [HT.out],by go_num⟩
         case measure=>simp [intOf];omega
       · have hT2:Cr.Tn (k+1) x0=2*x:=by rw [hT];unfold Cr.T;rw [htop,decide_eq_false h];simp
         have HT:=hid hT2
         have hge:decide ((16777216:Int)≤(x:Int)*2)=false:=by rw [decide_eq_false_iff_not];omega
         clear hT hT2 hx0 htop hx hxg h hs0 hcb
         go_wp2
         go_round
         case rel=>exact ⟨k+1,by omega,by rw [HT.out];go_num,by go_num⟩
         case measure=>simp [intOf];omega
     · obtain rfl:k=8:=by omega
       clear hT hx
       go_wp2
       go_round
       case rel=>exact ⟨i+1,by omega,by rw [HST.out],by go_num⟩
       case measure=>simp [intOf];omega
  · obtain rfl:i=n:=by omega
    have HF:=hid (show l.take i=l by rw [HN.out,List.take_length])
    go_wp2
    go_ret
    exact ⟨by rw [HF.out];rfl,rfl⟩
theorem bxrmay_any (a:Option Addr) (n cap:Nat) (L:List Bx.Sec) (W:World) (hn:n=L.length) (h:SecsAt W (.slice a n cap) L) (h500:n≤500) (hsz:Bx.sizes L≤90000) (hb:∀ s∈L,-9223372036854775808≤s.1∧s.1≤9223372036854775807) :
  Calls Tryz.prog 68 #[.slice a n cap] W fun e W'=>e=.returned (.bool (Bx.mayB L))∧Below W.heap.size W W':=by
 have HN:=hid hn
 have HS:=hid h
 have HBD:=hid hb
 have HSZ:=hid hsz
 clear hn h hb hsz
 obtain ⟨r,hr⟩:∃ r,r=Bx.mayB L:=⟨_,rfl⟩
 rw [←hr]
 have HM:=hid (show r=(decide (n≤8) && Bx.riseB 0 L && decide (Bx.total L≤100000)) by rw [hr,HN.out];rfl)
 clear hr
 go_enter Tryz.func68,Tryz.ntmps68
 go_wp2
 go_loopw [3,4] (fun s3 s4 wr=>∃ (i z:Nat),i≤n∧s4=.int .i64 i∧s3=.int .i64 z∧z≤100000∧Hid (z+Bx.sizes (L.drop i)=Bx.total L)∧Hid (∃ p:Int,0≤p∧Bx.riseB p (L.drop i)=Bx.riseB 0 L∧(i=0→p=0)∧∀ j (h:j<L.length),i=j+1→p=L[j].1)∧Hid (∃ q,wr=W.drewN q)) (fun _ s4 _=>n-(intOf s4).toNat)
 case atStart=>exact ⟨0,9+7*n,by omega,rfl,by simp,by omega,hid (by rw [List.drop_zero,HN.out];rfl),hid ⟨0,by omega,by rw [List.drop_zero],fun _=>rfl,fun j _ e=>by omega⟩,hid ⟨0,rfl⟩⟩
 case round=>
  obtain ⟨i,z,hin,rfl,rfl,hz,HZ,HP,HW⟩:=hrel
  obtain ⟨q0,hq0⟩:=HW.out
  subst hq0
  clear HW
  by_cases hlt:i<n
  · have hlt':i<L.length:=by rw [←HN.out];exact hlt
    obtain ⟨b,off,rfl,hc⟩:=HS.out.get hlt'
    obtain ⟨ab,cb,d0,d1,h1,h2,_⟩:=sec_open (hc i hlt')
    have hbd:=HBD.out L[i] (List.getElem_mem _)
    have hsl:=Bx.size_le (List.getElem_mem hlt')
    have hr:=Bx.riseB_drop L
    obtain ⟨p,hp0,hp1,hp2,hp3⟩:=HP.out
    have hrd:=hr p i hlt'
    have HSD:=hid (Bx.sizes_drop L i hlt')
    have hnew:∀ j (h:j<L.length),i+1=j+1→L[i].1=L[j].1:=fun j _ e=>by
     obtain rfl:i=j:=by omega
     rfl
    have hprev:i=0∨∃ j,∃ h:j<L.length,i=j+1∧p=L[j].1∧W.cell? ⟨b,off+j*2,none⟩=some (.int .i64 p):=by
     cases i with
     | zero=>exact Or.inl rfl
     | succ j=>
      have hj:j<L.length:=by omega
      refine Or.inr ⟨j,hj,rfl,hp3 j hj rfl,?_⟩
      rw [hp3 j hj rfl];exact (hc j hj).1
    have HNEW:=hid hnew
    have HSL:=hid hsl
    have HRD:=hid (show Bx.riseB 0 L=((decide (p<L[i].1) && decide (L[i].1≤255)) && Bx.riseB L[i].1 (L.drop (i+1))) by rw [←hp1];exact hrd)
    generalize hid0:L[i].1=id at *
    have hm5:L[i].2.length≤90000:=by have:=HSZ.out;omega
    generalize L[i].2.length=m at *
    have hp2':=hp2
    have HP2:=hid hp2
    clear hc hr hrd hp1 hp2 hp2' hp3 hid0 hnew hsl HP
    have hltI:(i:Int)<n:=by omega
    have hm6:decide (100000<(m:Int))=false:=decide_eq_false (by omega)
    have hFL:(¬ p<id∨¬ id≤255)→r=false:=fun hh=>by
     rw [HM.out,HRD.out]
     rcases hh with hh | hh
     · rw [decide_eq_false hh];simp
     · rw [decide_eq_false hh];simp
    have HFL:=hid hFL
    clear hFL
    rcases hprev with h0 | ⟨j,hj,hij,hpj,e0⟩
    · have hpz:p=0:=HP2.out h0
      subst hpz
      subst h0
      rw [Nat.zero_mul,Nat.add_zero] at d0 d1
      rcases (show id<1∨(1≤id∧255<id)∨(1≤id∧id≤255) by omega) with g1 | ⟨g1,g2⟩ | ⟨g1,g2⟩
      · have HF:=hid (HFL.out (Or.inl (by omega)))
        have b1:decide (id<1)=true:=decide_eq_true g1
        go_wp2
        go_quiet (fail)
        go_wp2
        go_ret
        exact ⟨ret_bool HF.out.symm,below_drawn (below_drawn (Below.refl _ _) _) _⟩
      · have HF:=hid (HFL.out (Or.inr (by omega)))
        have b1:decide (id<1)=false:=decide_eq_false (by omega)
        have b2:decide (255<id)=true:=decide_eq_true g2
        go_wp2
        go_quiet (fail)
        go_wp2
        go_ret
        exact ⟨ret_bool HF.out.symm,below_drawn (below_drawn (Below.refl _ _) _) _⟩
      · have b1:decide (id<1)=false:=decide_eq_false (by omega)
        have b2:decide (255<id)=false:=decide_eq_false (by omega)
        go_wp2
        go_quiet (fail)
        go_wp2
        go_roundw
        case rel=>exact ⟨0+1,z+m,by omega,by go_num,by go_num,by have:=HZ.out;have:=HN.out;have:=HSD.out;have:=HSZ.out;have:=Bx.sizes_take L 0;unfold Bx.total at *;omega,hid (by have:=HZ.out;have:=HSD.out;omega),hid ⟨id,by omega,by rw [HRD.out,decide_eq_true (by omega),decide_eq_true (by omega)];rfl,fun e=>by omega,fun j h e=>HNEW.out j h e⟩,hid ⟨q0+nq,by first | rfl | rw [World.drewN_drewN]⟩⟩
        case measure=>simp [intOf];omega
    · subst hij
      clear hpj
      have hj1:(j:Int)+1<n:=by omega
      have hgt:decide ((0:Int)<((j+1:Nat):Int))=true:=decide_eq_true (by omega)
      have hgt2:decide ((0:Int)<(j:Int)+1)=true:=decide_eq_true (by omega)
      rcases (show id<1∨(1≤id∧255<id)∨(1≤id∧id≤255∧id≤p)∨(1≤id∧id≤255∧p<id) by omega) with g1 | ⟨g1,g2⟩ | ⟨g1,g2,g3⟩ | ⟨g1,g2,g3⟩
      · have HF:=hid (HFL.out (Or.inl (by omega)))
        have b1:decide (id<1)=true:=decide_eq_true g1
        go_wp2
        go_quiet (fail)
        go_wp2
        go_ret
        exact ⟨ret_bool HF.out.symm,below_drawn (below_drawn (Below.refl _ _) _) _⟩
      · have HF:=hid (HFL.out (Or.inr (by omega)))
        have b1:decide (id<1)=false:=decide_eq_false (by omega)
        have b2:decide (255<id)=true:=decide_eq_true g2
        go_wp2
        go_quiet (fail)
        go_wp2
        go_ret
        exact ⟨ret_bool HF.out.symm,below_drawn (below_drawn (Below.refl _ _) _) _⟩
      · have HF:=hid (HFL.out (Or.inl (by omega)))
        have b1:decide (id<1)=false:=decide_eq_false (by omega)
        have b2:decide (255<id)=false:=decide_eq_false (by omega)
        have b3:decide (id≤p)=true:=decide_eq_true g3
        go_wp2
        go_quiet (fail)
        go_wp2
        go_ret
        exact ⟨ret_bool HF.out.symm,below_drawn (below_drawn (Below.refl _ _) _) _⟩
      · have b1:decide (id<1)=false:=decide_eq_false (by omega)
        have b2:decide (255<id)=false:=decide_eq_false (by omega)
        have b3:decide (id≤p)=false:=decide_eq_false (by omega)
        go_wp2
        go_quiet (fail)
        go_wp2
        go_roundw
        case rel=>exact ⟨j+1+1,z+m,by omega,by go_num,by go_num,by have:=HZ.out;have:=HN.out;have:=HSD.out;have:=HSZ.out;have:=Bx.sizes_take L 0;unfold Bx.total at *;omega,hid (by have:=HZ.out;have:=HSD.out;omega),hid ⟨id,by omega,by rw [HRD.out,decide_eq_true (by omega),decide_eq_true (by omega)];rfl,fun e=>by omega,fun j h e=>HNEW.out j h e⟩,hid ⟨q0+nq,by first | rfl | rw [World.drewN_drewN]⟩⟩
        case measure=>simp [intOf];omega
  · obtain rfl:i=n:=by omega
    have hd:L.drop i=[]:=List.drop_of_length_le (by rw [←HN.out];exact Nat.le_refl _)
    have hz1:=HZ.out
    obtain ⟨p,_,hp1,_⟩:=HP.out
    rw [hd] at hz1 hp1
    have hz2:z=Bx.total L:=hz1
    have hr2:Bx.riseB 0 L=true:=hp1.symm
    have HF:=hid (show r=(decide (i≤8) && decide (z≤100000)) by rw [HM.out,hr2,hz2,Bool.and_true])
    clear hz1 hp1 hz2 hr2 hd HZ HP HM
    by_cases h8:i≤8
    · have h8I:(i:Int)≤8:=by omega
      go_wp2
      go_ret
      exact ⟨ret_bool (by rw [HF.out,decide_eq_true h8,Bool.true_and,decide_eq_decide];omega),below_drawn (Below.refl _ _) _⟩
    · have h8I:(8:Int)<i:=by omega
      go_wp2
      go_ret
      exact ⟨ret_bool (by rw [HF.out,decide_eq_false h8];rfl),below_drawn (Below.refl _ _) _⟩
theorem rthree_any (k:Nat) (W:World) (hk:k<16777216) :
  Calls Tryz.prog 69 #[.int .i64 k] W fun e W'=>e=.returned (.slice (some ⟨W.heap.size,0,none⟩) 3 3)∧W'=W.alloc (.cells ((Bx.three k).map u8v).toArray 5):=by
 have e1:(k:Int) / 65536=((k / 65536 % 256:Nat):Int):=by omega
 have e2:(k:Int) / 256 % 256=((k / 256 % 256:Nat):Int):=by omega
 have e3:(k:Int) % 256=((k % 256:Nat):Int):=by omega
 have EE:=hid (show (#[Value.int .u8 ((k:Int) / 65536),Value.int .u8 ((k:Int) / 256 % 256),Value.int .u8 ((k:Int) % 256)]:Array Value)=((Bx.three k).map u8v).toArray by rw [e1,e2,e3];rfl)
 clear e1 e2 e3
 go_enter Tryz.func69,Tryz.ntmps69
 go_wp2
 go_ret
 exact ⟨rfl,by rw [EE.out]⟩
theorem step_append_blk {w:World} {P:Program} {ops:Array Oper} {o:Oper} {a:Act} {K:Act→World→Prop} {Q:Exit→Act→World→Prop} {E:Prop} (hgd:o.guard=none) (s x:Operand) (t:TypeId)
  (ho:o.op=.call { callee:=.builtin .append,args:=#[s,x],argTypes:=#[t,t] })
  (base:Nat) (e:TypeId) (i:TypeInfo) (z:Value) (bytes:Nat) (ht:P.underlying t=some (.slice e)) (hi:P.info? e=some i) (hz:i.zero=some z)
  (hsize:i.size=1) (hby:i.bytes=bytes) (hzs:z.cells.size=1)
  (v:Value) (n:Nat) (xs:List Value) (us:List Value) (m:Nat) (hm:m=us.length) (hs:a.eval s=v) (hown:w.ownsRow base e 1 v n xs)
  (H:Nat) (hx:a.eval x=.slice (some ⟨H,0,none⟩) m m) (hc:∀ j u,us[j]?=some u→w.cell? ⟨H,j,none⟩=some u) (h1:∀ u∈us,u.oneCell'=true)
  (h63:n+m≤maxLen) (hbytes:(n+m)*bytes≤140737488355328) (hbase:base≤w.heap.size)
  (h:∀ v' w',w'.ownsRow base e 1 v' (n+m) (xs++us)→w.grownBy w' v.ownBlock→Moved w v v'→K (a.put o.dst v') w') :
  if Region.wanted o (yielded ops a.tmps)=true then Oper.wp P o a w K Q else E:=by
 have hwd:Region.wanted o (yielded ops a.tmps)=true:=by simp [Region.wanted,hgd]
 rw [if_pos hwd]
 subst hm
 obtain ⟨v',w',hr,h2,h3,h4⟩:=run_append_blk (P:=P) (w:=w) base t o.type e i z 1 bytes ht hi hz hsize hby hzs (by decide) v n xs hown ⟨H,0,none⟩ us.length us.length us (by simp) (by
  intro j u' hu
  rw [add_cell rfl,Nat.zero_add]
  exact hc j u' hu) h1 h63 hbytes hbase
 have hk:=h v' w' h2 h3 h4
 unfold Oper.wp execOp
 simp only [ho,resolve,invoke,builtin,Sem.run_bind,Sem.run_pure,Result.andThen_ok,List.map_toArray,List.map_cons,List.map_nil,hs,hx,hr]
 exact hk
theorem bxrpack_ok (a:Option Addr) (n cap:Nat) (L:List Bx.Sec) (W:World) (hn:n=L.length) (h:SecsAt W (.slice a n cap) L) (h500:n≤500) (hsz:Bx.sizes L≤90000) (hM:Bx.May L) (hby:Bx.Bytes L) :
  Calls Tryz.prog 28 #[.slice a n cap] W fun e W'=>∃ v,e=.returned (.tuple #[v,.int .i64 0])∧Below W.heap.size W W'∧W'.ownsRow W.heap.size 5 1 v (Bx.total L) ((Bx.file L).map u8v):=by
 obtain ⟨i0,hi,hz0,hz1,hz2⟩:=info_parts Tryz.infobx5
 have hbd:∀ s∈L,(1≤s.1∧s.1≤255)∧s.2.length≤100000:=fun s hs=>by
  have h1:=Bx.rise_mem hM.2.1 s hs
  have h2:=Bx.size_le hs
  have h3:=hM.2.2
  unfold Bx.total at h3
  omega
 have MB:=hid (bxrmay_any a n cap L W hn h h500 hsz (fun s hs=>by have:=hbd s hs;omega))
 rw [(Bx.mayB_iff L).2 hM] at MB
 have HN:=hid hn
 have HS:=hid h
 have HM:=hid hM
 have HBY:=hid hby
 have HBD:=hid hbd
 have hn8:n≤8:=by have:=hM.1;omega
 have htot:=hM.2.2
 have hlen:L.length % 256=n:=by omega
 have HLEN:=hid hlen
 clear hn h hM hby hbd hlen hsz h500
 go_enter Tryz.func28,Tryz.ntmps28
 go_upto_region 3 with (go_at_call 68;refine MB.out.mono ?_;rintro e w1 ⟨rfl,hB1⟩)
 have HB1:=hid hB1
 clear hB1 MB
 have hz1':=HB1.out.size
 have hn256:(n:Int) % 256=n:=by omega
 have kc:=fun (w:World) (C:Array Value) (n c:Nat)=>Lib.run_convert_bytes_const (P:=Tryz.prog) w 32 5 C n c Tryz.underlying32 Tryz.underlying5
 go_wp2_with (at_builtin;go_loud (refine wpList_append_full rfl (.tmp 11) (.tmp 15) 32 rfl 5 i0 _ 1 Tryz.underlying32 hi hz0 hz1 hz2 rfl w1.heap.size 4 ([84,82,73,86].map u8v) rfl rfl ?holds (w1.heap.size+1) 2 2 ([1,n].map u8v) rfl rfl ?news ?one (by decide) ?b1 ?b2 ?_))
 case holds=>
  intro j u hj
  rw [World.cell?_alloc_lt _ _ _ (by simp)]
  rw [cell_new]
  simpa [u8v] using hj
 case news=>
  intro j u hj
  rw [World.cell?_alloc_at _ _ _ _ (by simp)]
  simpa [u8v] using hj
 case one=>intro u hu;obtain ⟨c,_,rfl⟩:=List.mem_map.1 hu;rfl
 case b1=>unfold maxLen;omega
 case b2=>omega
 intro v4 w4 hown hb4
 have hpre:(pre L 0).map u8v=[u8v 84,u8v 82,u8v 73,u8v 86,u8v 1,u8v n]:=by
  unfold pre;rw [HLEN.out];rfl
 have HO4:=hid (show w4.ownsRow W.heap.size 5 1 v4 6 ((pre L 0).map u8v) by rw [hpre];exact own_mono hown (by omega))
 have HB4:=hid (show Below W.heap.size W w4 from by
  refine (((HB1.out.alloc hz1' _).alloc (by simp;omega) _)).trans (hb4.mono (by omega)))
 clear hown hb4 hpre kc hn256
 go_wp2
 go_loopw [4,5] (fun s4 s5 wr=>∃ (i:Nat) (v:Value),i≤n∧s5=.int .i64 i∧s4=v∧Hid (wr.ownsRow W.heap.size 5 1 v (6+7*i) ((pre L i).map u8v))∧Hid (Below W.heap.size W wr)) (fun _ s5 _=>n-(intOf s5).toNat)
 case atStart=>exact ⟨0,v4,by omega,rfl,rfl,HO4,HB4⟩
 case round=>
  obtain ⟨i,v,hin,rfl,hv,HO,HB⟩:=hrel
  have hv2:=hv.symm
  subst hv2
  clear hv
  by_cases hlt:i<n
  · have hlt':i<L.length:=by rw [←HN.out];exact hlt
    obtain ⟨b,off,rfl,hc⟩:=HS.out.get hlt'
    obtain ⟨ab,cb,D0,D1,h1,h2,hbody⟩:=sec_open (hc i hlt')
    have HD1:=hid D1
    have d0:=below_keep HB.out D0
    have d1:=below_keep HB.out D1
    have hbd:=HBD.out L[i] (List.getElem_mem _)
    have hby:=HBY.out L[i] (List.getElem_mem _)
    have hsn:=pre_snoc L i hlt'
    generalize L[i]=s at *
    obtain ⟨id,body⟩:=s
    simp only at *
    obtain ⟨k,rfl⟩:∃ k:Nat,id=k:=⟨id.toNat,by omega⟩
    have hk:(((k:Int) % 256).toNat)=k:=by omega
    rw [hk] at hsn
    have hltI:(i:Int)<n:=by omega
    obtain ⟨m,hm⟩:∃ m,m=body.length:=⟨_,rfl⟩
    rw [←hm] at d1 h1 hbd hsn hbody HD1
    unfold maxLen at h2
    have HSN:=hid hsn
    have HBODY:=hid hbody
    have HBYT:=hid hby
    have hsm:=Cr.sum_lt body hby
    have hszr:=HB.out.size
    clear hc hm hk hsn hby hbody D0 D1
    go_upto_region 7 with fail
    have hkW:IntKind.u8.wrap (k:Int)=(k:Int):=by show (k:Int) % 256=k;omega
    have hblt:b<wr.heap.size:=lt_of_cell d1
    have hbne:b≠wr.heap.size:=by omega
    go_cut [4] (fun s4 wx=>∃ v6,s4=v6∧Hid (wx.ownsRow W.heap.size 5 1 v6 (6+7*i+1+3) ((pre L i++[k]++Bx.three m).map u8v))∧Hid (Below W.heap.size W wx))
    case first=>
     go_region_law (first
      | (refine step_append_blk (by rfl) (.tmp 23) (.tmp 30) 32 (by rfl) W.heap.size 5 i0 _ 1 Tryz.underlying32 hi hz0 hz1 hz2 rfl v _ _ ([k].map u8v) 1 rfl (by rfl) (bxown_below HO.out (((Below.refl _ _).drew).alloc (Nat.le_refl _) _)) wr.heap.size (by rfl) ?c1 ?o1 ?b1 ?b2 ?b3 ?_
         case c1=>(intro j u hj;refine (cell_new wr.drew _ _ _ j).trans ?_;simpa [u8v] using hj)
         case o1=>(intro u hu;obtain ⟨c,_,rfl⟩:=List.mem_map.1 hu;rfl)
         case b1=>(unfold maxLen;omega)
         case b2=>omega
         case b3=>(simp;omega)
         intro v3 w3 g1 g2 g3
         have HB3:=hid (((HB.out.drew).alloc hszr _).grown g2 (by simp;omega) (fun k hk=>(HO.out.lt k hk).1))
         have k1:=below_keep HB3.out HD1.out
         have G1:=hid g1
         clear g1 g2 g3)
      | (go_simp;go_at_call 69;refine (rthree_any m _ (by omega)).mono ?_;rintro e w' ⟨rfl,rfl⟩)
      | (refine step_append_blk (by rfl) (.tmp 31) (.tmp 38) 32 (by rfl) W.heap.size 5 i0 _ 1 Tryz.underlying32 hi hz0 hz1 hz2 rfl v3 _ _ ((Bx.three m).map u8v) 3 rfl (by rfl) (G1.out.alloc _) w3.heap.size (by rfl) ?c2 ?o2 ?b4 ?b5 ?b6 ?_
         case c2=>(intro j u hj;rw [cell_new];simpa using hj)
         case o2=>(intro u hu;obtain ⟨c,_,rfl⟩:=List.mem_map.1 hu;rfl)
         case b4=>(unfold maxLen;omega)
         case b5=>omega
         case b6=>(have:=HB3.out.size;simp;omega)
         intro v5 w5 g1 g2 g3
         have HB5:=hid ((HB3.out.alloc HB3.out.size _).grown g2 (by have:=HB3.out.size;simp;omega) (fun k hk=>(G1.out.lt k hk).1))
         have G5:=hid g1
         clear g1 g2 g3))
     all_goals
      go_wp2_with fail
      go_meet
      exact ⟨_,rfl,hid (by rw [List.map_append,List.map_append];exact G5.out),HB5⟩
    case rest=>
     obtain ⟨v6,hv6,HO6,HB6⟩:=hcut
     have hv6':=hv6.symm
     subst hv6'
     clear hv6 d0 d1 hblt hbne hkW
     have d1:=below_keep HB6.out HD1.out
     have hz6:=HB6.out.size
     have CS:=hid (rcsum_any (.slice ab m cb) body wc (HBODY.out.keep HB6.out) HBYT.out)
     have TH:=hid (rthree_any (Cr.sum body) wc hsm)
     go_wp2_with (first
      | (go_at_call 70;refine CS.out.mono ?_;rintro e w' ⟨rfl,hww⟩;subst hww)
      | (go_at_call 69;refine TH.out.mono ?_;rintro e w' ⟨rfl,rfl⟩)
      | (at_builtin;refine wpList_append_many rfl (.tmp 40) (.tmp 47) 32 rfl W.heap.size 5 i0 _ 1 Tryz.underlying32 hi hz0 hz1 hz2 rfl v6 _ _ ((Bx.three (Cr.sum body)).map u8v) 3 rfl wc rfl rfl HO6.out wc.heap.size rfl rfl ?one ?b1 ?b2 hz6 ?_))
     case one=>intro u hu;obtain ⟨c,_,rfl⟩:=List.mem_map.1 hu;rfl
     case b1=>unfold maxLen;omega
     case b2=>omega
     intro v7 w7 g1 g2 g3
     have HO7:=hid (show w7.ownsRow W.heap.size 5 1 v7 (6+7*i+1+3+3) ((pre L (i+1)).map u8v) by rw [←HSN.out];simpa only [List.map_append,List.map_cons,List.map_nil,List.append_assoc,List.cons_append,List.nil_append] using g1)
     have HB7:=hid (HB6.out.grown g2 hz6 (fun k hk=>(HO6.out.lt k hk).1))
     clear g1 g2 g3 CS TH
     go_wp2
     go_roundw
     case rel=>exact ⟨i+1,v7,by omega,by go_num,rfl,hid (by rw [show 6+7*(i+1)=6+7*i+1+3+3 by omega];exact HO7.out),HB7⟩
     case measure=>simp [intOf];omega
  · obtain rfl:i=n:=by omega
    have hpa:pre L i=Bx.head L:=by rw [HN.out];exact pre_all L
    rw [hpa] at HO
    have hdlt:=list_lt (head_lt L)
    have hsl:=Cr.sum_lt _ hdlt
    have hhl:=Bx.head_length L
    rw [←HN.out] at hhl
    have HDL:=hid hdlt
    obtain ⟨a5,cap5,hv,_,_,_,_⟩:=rowAt_own HO.out
    subst hv
    have hszr:=HB.out.size
    have BY5:=hid (own_bytes HO.out hhl.symm)
    have CS:=hid (rcsum_any _ _ wr BY5.out HDL.out)
    have TH:=hid (rthree_any (Cr.sum (Bx.head L)) wr hsl)
    have HHL:=hid hhl
    clear hpa hdlt hhl
    go_wp2_with (first
     | (go_at_call 70;refine CS.out.mono ?_;rintro e w' ⟨rfl,hww⟩;subst hww)
     | (go_at_call 69;refine TH.out.mono ?_;rintro e w' ⟨rfl,rfl⟩)
     | (at_builtin;refine wpList_append_many rfl (.tmp 49) (.tmp 52) 32 rfl W.heap.size 5 i0 _ 1 Tryz.underlying32 hi hz0 hz1 hz2 rfl (.slice a5 (6+7*i) cap5) _ _ ((Bx.three (Cr.sum (Bx.head L))).map u8v) 3 rfl wr rfl rfl HO.out wr.heap.size rfl rfl ?one ?b1 ?b2 hszr ?_))
    case one=>intro u hu;obtain ⟨c,_,rfl⟩:=List.mem_map.1 hu;rfl
    case b1=>unfold maxLen;omega
    case b2=>omega
    intro v6 w6 g1 g2 g3
    rw [←List.map_append,post_zero] at g1
    have HO7:=hid g1
    have HB6:=hid (HB.out.grown g2 hszr (fun k hk=>(HO.out.lt k hk).1))
    clear g1 g2 g3 BY5 CS TH
    have hpl0:6+7*i+3=(post L 0).length:=by
     unfold post;rw [List.length_append,List.length_append,Bx.head_length,Bx.three_length,←HN.out];simp [Bx.bodies]
    rw [hpl0] at HO7
    clear hpl0 HO HO4 HB4 HHL hsl hszr
    go_wp2
    go_loopw [4,6] (fun s4 s6 wr=>∃ (j:Nat) (v:Value),j≤i∧s6=.int .i64 j∧s4=v∧Hid (wr.ownsRow W.heap.size 5 1 v (post L j).length ((post L j).map u8v))∧Hid (Below W.heap.size W wr)) (fun _ s6 _=>i-(intOf s6).toNat)
    case atStart=>exact ⟨0,v6,by omega,rfl,rfl,HO7,HB6⟩
    case round=>
     obtain ⟨j,v,hji,rfl,hv,HO,HB⟩:=hrel
     have hv2:=hv.symm
     subst hv2
     clear hv
     by_cases hlt2:j<i
     · have hlt':j<L.length:=by rw [←HN.out];exact hlt2
       obtain ⟨b,off,rfl,hc⟩:=HS.out.get hlt'
       obtain ⟨ab,cb,d0,d1,h1,h2,hbody⟩:=sec_open (hc j hlt')
       have d1:=below_keep HB.out d1
       have hbd:=HBD.out L[j] (List.getElem_mem _)
       have hsn:=post_snoc L j hlt'
       have hpl:=post_length L (j+1)
       generalize L[j]=s at *
       obtain ⟨id,body⟩:=s
       simp only at *
       rw [←hsn,List.length_append] at hpl
       have hltI:(j:Int)<i:=by omega
       obtain ⟨m,hm⟩:∃ m,m=body.length:=⟨_,rfl⟩
       rw [←hm] at d1 h1 hbd hbody hpl
       unfold maxLen at h2
       have HM2:=hid hm
       have HSN:=hid hsn
       have HBODY:=hid (hbody.keep HB.out)
       have hszr:=HB.out.size
       have HOL:=hid (fun g hg=>HO.out.lt g hg:∀ g,v.ownBlock=some g→W.heap.size≤g∧g<wr.heap.size)
       obtain ⟨pl,hpl0⟩:∃ pl,pl=(post L j).length:=⟨_,rfl⟩
       rw [←hpl0] at HO hpl
       have HPL:=hid hpl0
       clear hc hm hsn hbody hpl0 d0
       go_wp2_with (at_builtin;refine wpList_append_row rfl (.tmp 60) (.tmp 65) 32 rfl W.heap.size 5 i0 _ 1 Tryz.underlying32 hi hz0 hz1 hz2 rfl v _ _ rfl HO.out ab m cb (fun t=>u8v (body.getD t 0)) rfl ?nil ?row ?one ?b1 ?b2 ?base ?_)
       case nil=>
        obtain ⟨a',c',e,_,_,hn,_⟩:=SlAt.open HBODY.out
        simp only [Value.slice.injEq] at e
        obtain ⟨rfl,_,rfl⟩:=e
        intro h;have:=hn h;exact ⟨by rw [HM2.out];exact this.1,this.2⟩
       case row=>exact (SlAt.row HBODY.out).2
       case one=>intro t _;rfl
       case b1=>unfold maxLen;omega
       case b2=>omega
       case base=>exact hszr
       intro v3 w3 g1 g2
       have hbm:(List.range m).map (fun t=>u8v (body.getD t 0))=body.map u8v:=by
        rw [HM2.out]
        refine List.ext_getElem (by simp) fun t q1 q2=>?_
        simp only [List.getElem_map,List.getElem_range]
        rw [List.getD,List.getElem?_eq_getElem (by simpa using q2)];rfl
       have HO3:=hid (show w3.ownsRow W.heap.size 5 1 v3 (post L (j+1)).length ((post L (j+1)).map u8v) by
        rw [←HSN.out,List.map_append,List.length_append,←HPL.out,←HM2.out,←hbm];exact g1)
       have HB3:=hid (HB.out.grown g2 hszr (fun k hk=>(HOL.out k hk).1))
       clear g1 g2 hbm
       go_wp2
       go_roundw
       case rel=>exact ⟨j+1,v3,by omega,by go_num,rfl,HO3,HB3⟩
       case measure=>simp [intOf];omega
     · obtain rfl:j=i:=by omega
       have hpa:post L j=Bx.file L:=by rw [HN.out];exact post_all L
       rw [hpa,Bx.file_length] at HO
       clear hpa
       go_wp2
       go_ret2
       exact ⟨v,rfl,HB.out,HO.out⟩
end Go.Proofs.YtjaebndajhppgaaGreatDoor
namespace Go.Proofs.YtjaebndajhppgaaGreatDoor
open Go.ChangeShapes Go.WideShapes Go.ChangeAt Go.RowKit Go.Sort
theorem own_open {w:World} {base:Nat} {v:Value} {N:Nat} {l:List Nat} (h:w.ownsRow base 5 1 v N (l.map u8v)) (hn:N=l.length):∃ a c,v=.slice a N c∧Hid (BytesAt w (.slice a N c) l):=by
 have hy:BytesAt w v l:=SlAt.own h hn
 have HY:=hid hy
 subst hn
 obtain ⟨a,c,rfl,_⟩:=hy
 exact ⟨a,c,rfl,HY⟩
theorem own_xs {w:World} {base:Nat} {v:Value} {N:Nat} {xs ys:List Value} (h:w.ownsRow base 5 1 v N xs) (e:xs=ys):w.ownsRow base 5 1 v N ys:=e ▸ h
theorem own_b {w:World} {base:Nat} {v:Value} {N:Nat} {l:List Nat} (h:w.ownsRow base 5 1 v N (l.map u8v)) (hn:N=l.length):Hid (BytesAt w v l):=hid (SlAt.own h hn)
theorem ne_new2 {W w:World} {o:Obj} {v:Value} {n:Nat} {xs:List Value} {t:TypeId} (h:w.ownsRow (W.alloc o).drew.heap.size t 1 v n xs):(Value.slice (some ⟨W.heap.size,0,none⟩) 2 2).ownBlock≠v.ownBlock:=fun e=>by
 have h1:=(h.lt W.heap.size e.symm).1
 have h2:(W.alloc o).drew.heap.size=W.heap.size+1:=by simp
 omega
theorem renc_any (L:List TR) (hl:∀ t∈L,Tm.isTri t=true) (hn:L.length≤100) (p:Nat) (w:World) (h:IsRef w p L) :
  Calls Tryz.prog 45 #[.pointer (some ⟨p,0,none⟩)] w fun e w'=>∃ v,e=.returned v∧w'.ownsRow w.heap.size 5 1 v (So.file L).length ((So.file L).map u8v)∧Below w.heap.size w w':=by
 have H:=hid h
 obtain ⟨vt,ve,vs,vi,h1,h2,h3,h4,h5⟩:=h
 have PK:=hid (fun W a n cap (hR:RowAt W a n fun i=>.int .i64 ((So.numsI L).getD i 0)) (e:n=3*L.length)=>pkrpack_ok a n cap (So.wid L) (So.numsI L) W (by rw [e,So.numsI_len]) (So.pack_may hn) hR)
 have RB:=hid (fun (v:Value) (W:World) (h:TextsAt W v (So.texts L))=>rbytes_any v (So.texts L) W h (So.texts_may hl hn))
 have BP:=hid (fun (a:Option Addr) (cap:Nat) (W:World) (h:SecsAt W (.slice a 2 cap) (So.secs L))=>bxrpack_ok a 2 cap (So.secs L) W rfl h (by omega) (by have h1:=So.body1_len hl hn;have h2:=So.body2_len hn;show (So.body1 L).length+((So.body2 L).length+0)≤90000;omega) (So.secs_may hl hn) (So.secs_bytes hl hn))
 have H4:=hid (show TextsAt w vs (So.texts L) from h4)
 have H5:=hid h5
 obtain ⟨ai,ci,rfl,_,_,_⟩:=h5.open
 obtain ⟨ae,ce,rfl,_,_,_⟩:=h3.open
 obtain ⟨asx,csx,rfl,_,_,_,_⟩:=h4.open
 rw [List.length_map] at h1
 rw [So.ids_len] at h1
 obtain ⟨m,hm⟩:∃ m,m=(So.terms L).length:=⟨_,rfl⟩
 have WD:=hid (fun W=>rwidth_any (m:Int) W (by have:=So.terms_len L;omega))
 have HWD:=hid (show So.wid L=Bn.width m by rw [hm];rfl)
 rw [Int.toNat_natCast,←HWD.out] at WD
 have HTL:=hid (show (So.texts L).length=m by rw [hm];unfold So.texts;rw [List.length_map])
 rw [List.length_map] at H4
 rw [So.ids_len] at H5
 obtain ⟨k,hk⟩:∃ k,k=L.length:=⟨_,rfl⟩
 rw [←hm,←hk] at h1
 rw [←hm] at H4
 rw [←hk] at H5
 have HK:=hid hk
 have hk100:k≤100:=by omega
 have HP:=hid h1
 clear h1 h2 h3 h4 h5 hm hk
 go_enter Tryz.func45,Tryz.ntmps45
 go_wp2
 go_loopg [3,4] k (fun gk s3 s4 wr=>∃ i:Nat,s4=.int .i64 i∧i≤k∧k-i≤gk∧Hid (Below w.heap.size w wr)∧Hid (wr.ownsRow w.heap.size 3 1 s3 (3*i) ((((So.ids L).take i).flatMap So.num3).map i64v)))
 case atStart=>exact ⟨0,rfl,Nat.zero_le _,Nat.le_refl _,hid (Below.refl _ _),hid (World.ownsRow_nil _ _ _ _)⟩
 case round=>
  obtain ⟨i,rfl,hik,hg,HB,HR⟩:=hrel
  have HPr:=hid (HP.out.keep HB.out)
  have e1:=HPr.out.cell (i:=1) rfl
  have e2:=HPr.out.cell (i:=2) rfl
  have e3:=HPr.out.cell (i:=3) rfl
  by_cases hlt:i<k
  · have hltz:(i:Int)<(k:Int):=by omega
    have hiL:i<(So.ids L).length:=by rw [So.ids_len,←HK.out];exact hlt
    obtain ⟨bl,off,rfl,hrow⟩:=H5.out.get hiL
    have HST:=hid (num3_step hiL)
    have b0:=hrow i hiL 0 (by omega)
    have b1:=hrow i hiL 1 (by omega)
    have b2:=hrow i hiL 2 (by omega)
    have b3:=HP.out.cell (i:=3) rfl
    obtain ⟨t,ht⟩:∃ t,t=(So.ids L)[i]:=⟨_,rfl⟩
    rw [←ht] at b0 b1 b2 HST
    obtain ⟨t1,t2,t3⟩:=t
    simp only [Rg.at',Nat.add_zero] at b0 b1 b2
    have c0:=below_keep HB.out b0
    have c1:=below_keep HB.out b1
    have c2:=below_keep HB.out b2
    clear ht hrow hiL
    obtain ⟨iS,hi0,hzS,hszS,hbyS⟩:=info_parts Tryz.soinfo3
    have hzr:=HB.out.size
    have HB5:=hid (HB.out.drew.alloc hzr (.cells ((So.num3 (t1,t2,t3)).map i64v).toArray 3))
    have HRA:=hid (show (wr.drew.alloc (.cells ((So.num3 (t1,t2,t3)).map i64v).toArray 3)).ownsRow w.heap.size 3 1 u3 (3*i) ((((So.ids L).take i).flatMap So.num3).map i64v) from World.ownsRow.alloc (show wr.drew.ownsRow w.heap.size 3 1 u3 (3*i) ((((So.ids L).take i).flatMap So.num3).map i64v) from HR.out) _)
    go_upto_region 5 with fail
    go_region_held3 (fun w'=>w'.cell? ⟨p,3,none⟩=some (.slice (some ⟨bl,off,none⟩) k ci)∧w'.cell? ⟨bl,off+i*3,none⟩=some (.int .i64 t1)∧w'.cell? ⟨bl,off+i*3+1,none⟩=some (.int .i64 t2)∧w'.cell? ⟨bl,off+i*3+2,none⟩=some (.int .i64 t3))
     (first
       | exact ⟨below_keep HB8.out b3,below_keep HB8.out b0,below_keep HB8.out b1,below_keep HB8.out b2⟩
       | exact ⟨below_keep HB5.out b3,below_keep HB5.out b0,below_keep HB5.out b1,below_keep HB5.out b2⟩
       | go_keep)
     (first
       | (refine step_append_opt (by rfl) (.tmp 18) (.tmp 43) 48 (by rfl) w.heap.size 3 iS _ 1 8 Tryz.underlying48 hi0 hzS hszS hbyS rfl (by decide) u3 (3*i) _ (by rfl) HRA.out (some ⟨wr.heap.size,0,none⟩) 3 3 ((So.num3 (t1,t2,t3)).map i64v) (by rfl) (fun h=>by cases h) rfl (news_blk wr.drew ((So.num3 (t1,t2,t3)).map i64v) 3) (num3_one _) ?b1 ?b2 ?b3 ?_
          case b1=>(unfold maxLen;omega)
          case b2=>omega
          case b3=>exact HB5.out.size
          intro v8 w8 g1 g2 g3
          have HB8:=hid (HB5.out.grown g2 HB5.out.size (fun k hk=>(HRA.out.lt k hk).1))
          have HR8:=hid (show w8.ownsRow w.heap.size 3 1 v8 (3*(i+1)) ((((So.ids L).take (i+1)).flatMap So.num3).map i64v) by rw [HST.out,List.map_append];exact g1)
          clear g1 g2 g3)
       | fail)
    go_wp2
    go_roundg (k-(i+1))
    case measure=>omega
    case rel=>exact ⟨i+1,by go_num,by omega,by omega,HB8,HR8⟩
  · obtain rfl:i=k:=by omega
    have hltz:¬ (i:Int)<(i:Int):=by omega
    have hin:3*i=(So.numsI L).length:=by rw [So.numsI_len,HK.out]
    have HRN:=hid (show wr.ownsRow w.heap.size 3 1 u3 (3*i) ((So.numsI L).map i64v) by
     have h:=HR.out
     rw [show (So.ids L).take i=So.ids L from by rw [HK.out,←So.ids_len,List.take_length]] at h
     exact h)
    obtain ⟨an,cn,hv4,q1,q2,q3,hrow⟩:=SlAt.own (f:=i64v) (d:=(0:Int)) HRN.out hin
    rw [←hin] at hv4 hrow
    subst hv4
    have PKw:=hid (PK.out wr an (3*i) cn hrow (by rw [HK.out]))
    clear hin q1 q2 q3 hrow HR hg
    go_upto_region 7 with (first
     | (go_at_call 55;refine (WD.out _).mono ?_;rintro e w2 ⟨rfl,rfl⟩)
     | (go_at_call 27;refine PKw.out.mono ?_;rintro e w1 ⟨b,rfl,hb2,hb,hblk⟩;have HB2:=hid hb2;have HBB:=hid hb;have HBK:=hid hblk;clear hb2 hb hblk))
    have HBW:=hid (below_then HB.out HB2.out)
    obtain ⟨z,hz⟩:∃ z,z=Pm.size (3*i) (So.wid L):=⟨_,rfl⟩
    rw [←hz] at HBK ⊢
    have HZ:=hid hz
    have hz338:z≤338:=by rw [hz,HK.out];exact So.size_le (by rw [←HK.out];exact hk100)
    have hpk:(So.packed L).length=z:=by rw [So.packed_len,←HK.out];exact hz.symm
    have HBK2:=hid (show Blk w1 b ((So.packed L).map u8v) 5 by
     have h:=HBK.out
     rw [hz,HK.out,packed_cells] at h;exact h)
    have hx:#[Value.int .u8 ((i:Int) / 256),Value.int .u8 (i:Int)].toList++(So.packed L).map u8v=(So.body2 L).map u8v:=by
     unfold So.body2
     rw [List.map_append,←HK.out]
     congr 1
     show [Value.int .u8 ((i:Int) / 256),Value.int .u8 (i:Int)]=[Value.int .u8 ((i / 256 % 256:Nat):Int),Value.int .u8 ((i % 256:Nat):Int)]
     rw [show ((i / 256 % 256:Nat):Int)=(i:Int) / 256 by omega,show ((i % 256:Nat):Int)=(i:Int) by omega]
    have HX:=hid hx
    have hlen2:(So.body2 L).length=2+z:=by unfold So.body2;rw [List.length_append,hpk];rfl
    have HL2:=hid hlen2
    have HPK:=hid hpk
    have HP1:=hid (HPr.out.keep HB2.out)
    clear hz e1 e2 e3 hx hlen2 hpk HBK
    have e2:=HP1.out.cell (i:=2) rfl
    have e3:=HP1.out.cell (i:=3) rfl
    obtain ⟨iS,hi0,hzS,hszS,hbyS⟩:=info_parts Tryz.soinfo5
    obtain ⟨n1,hn1⟩:∃ n1,n1=(So.body1 L).length:=⟨_,rfl⟩
    have HN1:=hid hn1
    have RB2:=hid (show ∀ W,Below w1.heap.size w1 W→Calls Tryz.prog 29 #[.slice asx m csx] W fun e W'=>∃ a c,e=.returned (.slice a n1 c)∧Hid (W'.ownsRow W.heap.size 5 1 (.slice a n1 c) n1 ((So.body1 L).map u8v))∧Below W.heap.size W W' from fun W hB=>by
     refine (RB.out (.slice asx m csx) W (H4.out.keep (below_then HBW.out hB))).mono ?_
     rintro e W' ⟨v,rfl,hb,ho⟩
     have ho:W'.ownsRow W.heap.size 5 1 v n1 ((So.body1 L).map u8v):=by rw [HN1.out];exact ho
     obtain ⟨a,c,rfl,_⟩:=own_open ho HN1.out
     exact ⟨a,c,rfl,hid ho,hb⟩)
    clear hn1
    have hdA:Below w1.heap.size w1 w1.drew:=(Below.refl _ _).drew
    have hdB:Below w1.heap.size w1 (w1.alloc (.cells #[.int .u8 ((i:Int) / 256),.int .u8 (i:Int)] 5)).drew:=((Below.refl _ _).alloc (Nat.le_refl _) _).drew
    have OB:=hid (show (w1.alloc (.cells #[.int .u8 ((i:Int) / 256),.int .u8 (i:Int)] 5)).drew.ownsRow w1.heap.size 5 1 (.slice (some ⟨w1.heap.size,0,none⟩) 2 2) 2 #[Value.int .u8 ((i:Int) / 256),Value.int .u8 (i:Int)].toList from own_built w1 5 #[.int .u8 ((i:Int) / 256),.int .u8 (i:Int)] 2 rfl (by unfold maxLen;omega) rfl)
    have SRC:=hid (fun W (hB:Below w1.heap.size w1 W) ad (had:(some ⟨b,0,none⟩:Option Addr)=some ad) j u (hu:((So.packed L).map u8v)[j]?=some u)=>(by
     cases had
     rw [add_cell rfl,Nat.zero_add]
     exact (HBK2.out.keep hB).cell hu:W.cell? (ad.add j)=some u))
    have ONE:=hid (show ∀ u∈(So.packed L).map u8v,u.oneCell'=true from fun u hu=>by
     obtain ⟨x,_,rfl⟩:=List.mem_map.1 hu;rfl)
    have LEN:=hid (show ((So.packed L).map u8v).length=z*1 by rw [List.length_map,HPK.out,Nat.mul_one])
    have hw1:IntKind.u8.wrap ((i:Int) / 256)=(i:Int) / 256:=IntWalk.u8_in _ ⟨by omega,by omega⟩
    have hw2:IntKind.u8.wrap (i:Int)=(i:Int):=IntWalk.u8_in _ ⟨by omega,by omega⟩
    have hq1:2+z≤maxLen:=by unfold maxLen;omega
    have hq2:(2+z)*1≤140737488355328:=by omega
    clear RB PK PKw WD
    go_region_held3 (fun w'=>w'.cell? ⟨p,2,none⟩=some (.slice asx m csx)∧w'.cell? ⟨p,3,none⟩=some (.slice ai i ci))
     (first
       | exact ⟨below_keep hbD e2,below_keep hbD e3⟩
       | exact ⟨below_keep hbC e2,below_keep hbC e3⟩
       | go_keep)
     (first
       | (go_at_call 29;with_reducible refine (RB2.out _ hdA).mono ?_;rintro e w2 ⟨a2,c2,rfl,HO2,hb2⟩;have HY2:=own_b HO2.out HN1.out;have hbC:=below_then hdA hb2;have SA:=hid (show w2.heap.size≤(w2.alloc (.cells #[.int .u8 ((i:Int) / 256),.int .u8 (i:Int)] 5)).heap.size by simp);have OA:=hid (own_built w2 5 #[.int .u8 ((i:Int) / 256),.int .u8 (i:Int)] 2 rfl (by unfold maxLen;omega) rfl))
       | (go_at_call 29;with_reducible refine (RB2.out _ hdB).mono ?_;rintro e w2 ⟨a2,c2,rfl,HO2,hb2⟩;have hbC:=below_then hdB hb2;have OB2:=hid (bxown_below OB.out hb2))
       | (refine step_append_opt (by rfl) (.tmp 76) (.tmp 77) 32 (by rfl) w2.heap.size 5 iS _ 1 1 Tryz.underlying32 hi0 hzS hszS hbyS rfl (by decide) (.slice (some ⟨w2.heap.size,0,none⟩) 2 2) 2 _ (by rfl) OA.out (some ⟨b,0,none⟩) z z ((So.packed L).map u8v) (by rfl) (fun h=>by cases h) LEN.out (SRC.out _ (hbC.alloc hbC.size _)) ONE.out hq1 hq2 SA.out ?_
          intro v3 w3 g1 g2 g3
          have hb3:=((Below.refl w2.heap.size w2).alloc (Nat.le_refl _) _).grown g2 (by simp) (fun k hk=>(OA.out.lt k hk).1)
          have hbD:=below_then hbC hb3
          have HY3:=hid (HY2.out.keep hb3)
          obtain ⟨a3,c3,rfl,HY4⟩:=own_open (own_xs g1 HX.out) HL2.out.symm
          have HSEC:=hid (secs_two (Blk.new w3 [.int .i64 1,.slice a2 n1 c2,.int .i64 2,.slice a3 (2+z) c3] 56) (HY3.out.keep ((Below.refl _ _).alloc (Nat.le_refl _) _)) (HY4.out.keep ((Below.refl _ _).alloc (Nat.le_refl _) _)))
          clear g1 g2 g3)
       | (refine step_append_opt (by rfl) (.tmp 76) (.tmp 77) 32 (by rfl) w1.heap.size 5 iS _ 1 1 Tryz.underlying32 hi0 hzS hszS hbyS rfl (by decide) (.slice (some ⟨w1.heap.size,0,none⟩) 2 2) 2 _ (by rfl) OB2.out (some ⟨b,0,none⟩) z z ((So.packed L).map u8v) (by rfl) (fun h=>by cases h) LEN.out (SRC.out _ hbC) ONE.out hq1 hq2 hbC.size ?_
          intro v3 w3 g1 g2 g3
          have hbD:=hbC.grown g2 hbC.size (fun k hk=>(OB2.out.lt k hk).1)
          have HY3:=own_b (Apart.kept (Or.inr (Or.inr (ne_new2 HO2.out))) HO2.out g2) HN1.out
          obtain ⟨a3,c3,rfl,HY4⟩:=own_open (own_xs g1 HX.out) HL2.out.symm
          have HSEC:=hid (secs_two (Blk.new w3 [.int .i64 1,.slice a2 n1 c2,.int .i64 2,.slice a3 (2+z) c3] 56) (HY3.out.keep ((Below.refl _ _).alloc (Nat.le_refl _) _)) (HY4.out.keep ((Below.refl _ _).alloc (Nat.le_refl _) _)))
          clear g1 g2 g3)
       | (go_at_call 28;with_reducible refine (BP.out _ _ _ HSEC.out).mono ?_;rintro e w4 ⟨v4,rfl,hb4,ho4⟩;have hbE:=hbD;have hbD:=below_then (hbE.alloc hbE.size _) hb4;have HO4:=hid ho4)
       | fail)
    all_goals
     go_wp2
     go_ret
     have hb7:=below_then HBW.out hbD
     have hsz:=(below_then HBW.out hbE).size
     have ho:=HO4.out
     rw [show Bx.total (So.secs L)=(So.file L).length from by unfold So.file;rw [Bx.file_length]] at ho
     exact ⟨_,rfl,own_mono ho (by simp;omega),hb7⟩
end Go.Proofs.YtjaebndajhppgaaGreatDoor
namespace Go.Proofs.YtjaebndajhppgaaGreatDoor
open Go.ChangeShapes Go.WideShapes Go.ChangeAt Go.RowKit Go.Sort
theorem sidf_any (a:T3) (ha:So.isT a) (s:List UInt8) (w:World) :
  Calls Tryz.prog 74 #[tmv a,str s] w fun e w'=>e=.returned (.int .i64 (Tm.cmp (So.sh a) s))∧Below w.heap.size w w':=by
 obtain ⟨h1,h2,h3,h4⟩:=vt_len ⟨a,ha⟩
 have TS:=hid (fun W=>tshow_any (a.1:Nat) a.2.1 a.2.2 W h1 h2)
 have e:Tm.show (a.1:Nat) a.2.1 a.2.2=So.sh a:=vt_show ⟨a,ha⟩
 rw [e] at TS
 have SC:=hid (fun u W=>scmp_any u s W)
 obtain ⟨k,t,x⟩:=a
 clear h1 h2 h3 h4 e ha
 have HB0:=hid (show Below w.heap.size w (w.alloc (.cells #[.int .i64 (k:Nat),str t,str x] 61)) from (Below.refl _ _).alloc (Nat.le_refl _) _)
 go_enter Tryz.func74,Tryz.ntmps74
 go_wp2_with (first
  | (go_at_call 57;refine (TS.out _).mono ?_;rintro e w1 ⟨rfl,hB⟩;have HB1:=hid (below_then HB0.out hB);clear hB)
  | (go_at_call 75;refine (SC.out _ _).mono ?_;rintro e w2 ⟨rfl,rfl⟩))
 go_ret
 exact ⟨rfl,HB1.out⟩
def bsI (E:List T3) (s:List UInt8):Nat:=(E.takeWhile fun a=>decide (Tm.cmp (So.sh a) s<0)).length
def bsF (E:List T3) (s:List UInt8):Bool:=decide ((E[bsI E s]?).map So.sh=some s)
theorem bsI_eq {E:List T3} {s:List UInt8} {i:Nat} (hi:i≤E.length) (h1:∀ j (h:j<E.length),j<i→Tm.cmp (So.sh E[j]) s<0) (h2:∀ j (h:j<E.length),i≤j→¬ Tm.cmp (So.sh E[j]) s<0):bsI E s=i:=by
 unfold bsI
 have e:E.takeWhile (fun a=>decide (Tm.cmp (So.sh a) s<0))=E.take i:=by
  conv=>lhs;rw [←List.take_append_drop i E]
  rw [List.takeWhile_append_of_pos (fun a ha=>?_)]
  · cases hd:E.drop i with
    | nil=>simp
    | cons a r=>
     have hl:i<E.length:=by
      rcases Nat.lt_or_ge i E.length with h | h
      · exact h
      · rw [List.drop_eq_nil_of_le h] at hd;cases hd
     have ha:E[i]=a:=by
      have:=List.drop_eq_getElem_cons hl
      rw [hd] at this;exact (List.cons.inj this).1.symm
     have hn:=h2 i hl (Nat.le_refl _)
     rw [ha] at hn
     simp [hn]
  · obtain ⟨j,hj,rfl⟩:=List.getElem_of_mem ha
    rw [List.length_take] at hj
    rw [List.getElem_take]
    exact decide_eq_true (h1 j (by omega) (by omega))
 rw [e,List.length_take];omega
theorem bsF_eq {E:List T3} {s:List UInt8} {i:Nat} {f:Bool} (hI:bsI E s=i) (hf:f=true↔∃ h:i<E.length,So.sh E[i]=s):bsF E s=f:=by
 unfold bsF
 rw [hI,Bool.eq_iff_iff,decide_eq_true_eq,hf]
 constructor
 · intro h
   rcases Nat.lt_or_ge i E.length with h3 | h3
   · rw [List.getElem?_eq_getElem h3] at h
     exact ⟨h3,Option.some.inj h⟩
   · rw [List.getElem?_eq_none h3] at h;cases h
 · rintro ⟨h,h2⟩
   rw [List.getElem?_eq_getElem h,←h2];rfl
theorem bsf_any (E:List T3) (hE:∀ a∈E,So.isT a) (hs:So.Srt So.cT E) (hn:E.length≤10000) (s:List UInt8) (w:World) (v:Value) (hv:TermsAt w v E) :
  Calls Tryz.prog 73 #[v,str s,.func (.func 74) #[] #[]] w fun e w'=>e=.returned (.tuple #[.int .i64 (bsI E s:Nat),.bool (bsF E s)])∧Below w.heap.size w w':=by
 have ID:=hid (fun a ha W=>sidf_any a ha s W)
 obtain ⟨va,vc,rfl,hc1,hc2,hc3⟩:=hv.open
 have HV:=hid hv
 have HE:=hid hE
 have HSL:=hid (show ∀ i j (hi:i<E.length) (hj:j<E.length),i≤j→Tm.cmp (So.sh E[i]) (So.sh E[j])≤0 from fun i j hi hj hij=>by
  rcases Nat.lt_or_ge i j with h | h
  · exact Int.le_of_lt ((So.srt_lt So.ordT hs hi hj).2 h)
  · have:i=j:=by omega
    subst this;have:=So.ordT.self E[i];exact Int.le_of_eq this)
 obtain ⟨n,hn0⟩:∃ n,n=E.length:=⟨_,rfl⟩
 have HN:=hid hn0
 rw [←hn0] at HV hn hc1 ⊢
 clear hv hE hs hc1 hc2 hc3 hn0
 go_enter Tryz.func73,Tryz.ntmps73
 go_wp2
 go_loopg [9,10] n (fun gk s9 s10 wr=>∃ lo hi:Nat,s9=.int .i64 lo∧s10=.int .i64 hi∧lo≤hi∧hi≤n∧hi-lo≤gk∧Hid (Below w.heap.size w wr)∧Hid ((∀ j (h:j<E.length),j<lo→Tm.cmp (So.sh E[j]) s<0)∧(∀ j (h:j<E.length),hi≤j→0≤Tm.cmp (So.sh E[j]) s)))
 case atStart=>exact ⟨0,n,rfl,rfl,Nat.zero_le _,Nat.le_refl _,by omega,Below.refl _ _,fun j h h1=>by omega,fun j h h1=>by have:=HN.out;omega⟩
 case round=>
  obtain ⟨lo,hi,rfl,rfl,hlh,hin,hg,HB,HI⟩:=hrel
  by_cases hlt:lo<hi
  · have hhE:(lo+hi) / 2<E.length:=by rw [←HN.out];omega
    obtain ⟨m,hm⟩:∃ m,m=(lo+hi) / 2:=⟨_,rfl⟩
    have hmz:((lo:Int)+(hi:Int)) / 2=((m:Nat):Int):=by omega
    rw [←hm] at hhE
    obtain ⟨b,off,rfl,hrow⟩:=(HV.out.keep HB.out).get hhE
    have c0:=hrow m hhE 0 (by omega)
    have c1:=hrow m hhE 1 (by omega)
    have c2:=hrow m hhE 2 (by omega)
    obtain ⟨t,ht⟩:∃ t,t=E[m]:=⟨_,rfl⟩
    rw [←ht] at c0 c1 c2
    have hc:=ID.out t (by rw [ht];exact HE.out _ (List.getElem_mem _)) wr
    have HM:=hid (show m=(lo+hi) / 2 from hm)
    have hm1:lo≤m:=by omega
    have hm2:m<hi:=by omega
    have HLO:=hid (show Tm.cmp (So.sh t) s<0→∀ j (h:j<E.length),j<m+1→Tm.cmp (So.sh E[j]) s<0 from fun h0 j h hj=>by
     have h1:=HSL.out j m h hhE (by omega)
     rw [←ht] at h1
     rcases Int.lt_or_eq_of_le (Tm.cmp_trans h1 (Int.le_of_lt h0)) with h2 | h2
     · exact h2
     · exfalso
       have e:=Tm.cmp_zero.1 h2
       rw [e] at h1
       have:=Tm.cmp_neg s (So.sh t)
       omega)
    have HHI:=hid (show ¬ Tm.cmp (So.sh t) s<0→∀ j (h:j<E.length),m≤j→0≤Tm.cmp (So.sh E[j]) s from fun h0 j h hj=>Int.not_lt.1 fun h2=>by
     have h1:=HSL.out m j hhE h hj
     rw [←ht] at h1
     have h3:=Tm.cmp_trans h1 (Int.le_of_lt h2)
     have h4:Tm.cmp (So.sh t) s=0:=by omega
     have e:=Tm.cmp_zero.1 h4
     rw [e] at h1
     have:=Tm.cmp_neg s (So.sh E[j])
     omega)
    obtain ⟨z,hz⟩:∃ z,z=Tm.cmp (So.sh t) s:=⟨_,rfl⟩
    rw [←hz] at hc HLO HHI
    obtain ⟨k,tt,xx⟩:=t
    simp only [tm3,List.getElem?_cons_zero,List.getElem?_cons_succ,Nat.add_zero] at c0 c1 c2
    clear hm ht hz hrow hhE
    by_cases hz0:z<0
    · have H1:=hid (HLO.out hz0)
      clear HLO HHI
      go_wp2_with (go_at_call 74;refine hc.mono ?_;rintro e w' ⟨rfl,hb'⟩;have HB2:=hid (below_then HB.out hb');clear hb')
      go_roundg (hi-(m+1))
      case measure=>omega
      case rel=>exact ⟨m+1,hi,by go_num,rfl,by omega,by omega,Nat.le_refl _,HB2,H1.out,HI.out.2⟩
    · have H1:=hid (HHI.out hz0)
      clear HLO HHI
      go_wp2_with (go_at_call 74;refine hc.mono ?_;rintro e w' ⟨rfl,hb'⟩;have HB2:=hid (below_then HB.out hb');clear hb')
      go_roundg (m-lo)
      case measure=>omega
      case rel=>exact ⟨lo,m,rfl,by go_num,by omega,by omega,Nat.le_refl _,HB2,HI.out.1,H1.out⟩
  · obtain rfl:lo=hi:=by omega
    by_cases hl:lo<n
    · have hlE:lo<E.length:=by rw [←HN.out];exact hl
      have hlz:(lo:Int)<(n:Int):=by omega
      obtain ⟨b,off,rfl,hrow⟩:=(HV.out.keep HB.out).get hlE
      have c0:=hrow lo hlE 0 (by omega)
      have c1:=hrow lo hlE 1 (by omega)
      have c2:=hrow lo hlE 2 (by omega)
      obtain ⟨t,ht⟩:∃ t,t=E[lo]:=⟨_,rfl⟩
      rw [←ht] at c0 c1 c2
      have hc:=ID.out t (by rw [ht];exact HE.out _ (List.getElem_mem _)) wr
      obtain ⟨z,hz⟩:∃ z,z=Tm.cmp (So.sh t) s:=⟨_,rfl⟩
      rw [←hz] at hc
      have HF:=hid (show (z==0)=true↔∃ h:lo<E.length,So.sh E[lo]=s by
       rw [beq_iff_eq,hz,Tm.cmp_zero,ht]
       exact ⟨fun h=>⟨hlE,h⟩,fun ⟨_,h⟩=>h⟩)
      obtain ⟨k,tt,xx⟩:=t
      simp only [tm3,List.getElem?_cons_zero,List.getElem?_cons_succ,Nat.add_zero] at c0 c1 c2
      clear ht hz hrow hlE
      obtain ⟨f,hf⟩:∃ f,f=(z==0):=⟨_,rfl⟩
      rw [←hf] at HF
      have HFZ:=hid hf
      clear hf
      go_wp2_with (go_at_call 74;refine hc.mono ?_;rintro e w' ⟨rfl,hb'⟩;have HB2:=hid (below_then HB.out hb');clear hb')
      go_ret2
      have eI:=bsI_eq (by rw [←HN.out];exact hin) HI.out.1 (fun j h hj=>Int.not_lt.2 (HI.out.2 j h hj))
      have eF:=bsF_eq eI HF.out
      exact ⟨by rw [eI,eF,HFZ.out];rfl,HB2.out⟩
    · have hlz:¬ (lo:Int)<(n:Int):=by omega
      go_wp2
      go_ret2
      have eI:=bsI_eq (by rw [←HN.out];exact hin) HI.out.1 (fun j h hj=>Int.not_lt.2 (HI.out.2 j h hj))
      have eF:=bsF_eq (f:=false) eI (by
       constructor
       · intro h;cases h
       · rintro ⟨h,_⟩;rw [←HN.out] at h;exact absurd h hl)
      exact ⟨by rw [eI,eF];rfl,HB.out⟩
theorem ne_tmI (a:T3) (k:Int) (t x:List UInt8) (w:World):(binOp .neq 61 (.agg #[.int .i64 (a.1:Nat),str a.2.1,str a.2.2]) (.agg #[.int .i64 k,str t,str x])).run Tryz.prog w=.ok (.bool (!decide ((a.1:Int)=k∧a.2.1=t∧a.2.2=x))) w:=by
 obtain ⟨m,u,y⟩:=a
 by_cases h1:(m:Int)=k <;> by_cases h2:u=t <;> by_cases h3:y=x
 all_goals
  simp [go_sem,h1,h2,h3] <;> omega
def idOf (E:List T3) (k:Int) (t x:List UInt8):Nat:=if 0≤k then So.num E (k.toNat,t,x) else 0
theorem idOf_nat (E:List T3) (n:Nat) (t x:List UInt8):idOf E (n:Int) t x=So.num E (n,t,x):=by unfold idOf;rw [if_pos (by omega),Int.toNat_natCast]
theorem idOf_found {E:List T3} (hE:∀ a∈E,So.isT a) (hs:So.Srt So.cT E) (k:Int) (t x:List UInt8) {j:Nat} (hj:j<E.length) (he:(E[j].1:Int)=k∧E[j].2.1=t∧E[j].2.2=x) :
  bsI E (Tm.show k t x)=j∧bsF E (Tm.show k t x)=true∧idOf E k t x=j+1:=by
 obtain ⟨e1,e2,e3⟩:=he
 have hv:=vt_show ⟨E[j],hE _ (List.getElem_mem hj)⟩
 have hsh:Tm.show k t x=So.sh E[j]:=by rw [←hv,←e1,←e2,←e3]
 have eI:bsI E (Tm.show k t x)=j:=by
  refine bsI_eq (by omega) (fun i hi hij=>?_) (fun i hi hij=>?_)
  · rw [hsh];exact (So.srt_lt So.ordT hs hi hj).2 hij
  · rw [hsh];intro h;have:=(So.srt_lt So.ordT hs hi hj).1 h;omega
 refine ⟨eI,bsF_eq eI ⟨fun _=>⟨hj,hsh.symm⟩,fun _=>rfl⟩,?_⟩
 rw [←e1,idOf_nat,←e2,←e3]
 exact So.num_at (So.srt_nodup So.ordT hs) hj
theorem idOf_none {E:List T3} {k:Int} {t x:List UInt8} (h:∀ j (hj:j<E.length),¬ ((E[j].1:Int)=k∧E[j].2.1=t∧E[j].2.2=x)):idOf E k t x=0:=by
 unfold idOf
 split
 · refine So.num_not fun hm=>?_
   obtain ⟨j,hj,e⟩:=List.getElem_of_mem hm
   exact h j hj (by rw [e];exact ⟨by show ((k.toNat:Nat):Int)=k;omega,rfl,rfl⟩)
 · rfl
theorem sid_any (p:Nat) (L:List TR) (hl:∀ t∈L,Tm.isTri t=true) (hn:L.length≤1000) (k:Int) (t x:List UInt8) (w:World) (h:IsStore w p L) (ht:t.length≤1000000000) (hx:x.length≤1000000000) :
  Calls Tryz.prog 32 #[.pointer (some ⟨p,0,none⟩),tmV k t x] w fun e w'=>e=.returned (.int .i64 (idOf (So.terms L) k t x:Nat))∧Below w.heap.size w w':=by
 obtain ⟨vt,ve,r,h1,h2,h3,h4⟩:=h
 have HE:=hid (So.terms_is hl)
 have HS:=hid (So.terms_srt hl)
 have hlen:=So.terms_len L
 obtain ⟨E,hE⟩:∃ E,E=So.terms L:=⟨_,rfl⟩
 rw [←hE] at h3 HE HS hlen ⊢
 clear hE
 obtain ⟨a,cap,rfl,hc1,hc2,hc3⟩:=h3.open
 have TS:=hid (fun W=>tshow_any k t x W ht hx)
 have BS:=hid (fun (s:List UInt8) (W:World) (hv:TermsAt W (.slice a E.length cap) E)=>bsf_any E HE.out HS.out (by omega) s W _ hv)
 have HP:=hid h1
 have HT:=hid h3
 obtain ⟨s,hs⟩:∃ s,s=Tm.show k t x:=⟨_,rfl⟩
 have HSH:=hid hs
 rw [←hs] at TS
 obtain ⟨n,hn0⟩:∃ n,n=E.length:=⟨_,rfl⟩
 rw [←hn0] at BS HT HP
 have HN:=hid hn0
 clear h1 h2 h3 h4 hc1 hc2 hc3 hs hn0
 go_enter Tryz.func32,Tryz.ntmps32
 go_upto_region 3 with fail
 obtain ⟨w2,hw2,k0,k1,k2,HB⟩:=tm_box w (.int .i64 k) (str t) (str x) 61
 rw [←hw2]
 have HP2:=hid (show Blk w2 p [vt,.slice a n cap,.pointer (some ⟨r,0,none⟩)] 110 by rw [hw2];exact HP.out.alloc _)
 have HT2:=hid (show TermsAt w2 (.slice a n cap) E from HT.out.keep HB.out)
 clear hw2
 have p1:=fun q:Later w2.heap.size w2=>q.keep (HP2.out.cell (i:=1) rfl)
 refine wp_region_later w2.heap.size (by kernel_rfl) (by kernel_rfl) ?_
 repeat (go_big_quiet_step (first
  | (go_at_call 57;with_reducible exact Later.call (Nat.le_refl _) (TS.out _))
  | (go_at_call 73;with_reducible exact Later.call (Nat.le_refl _) (BS.out s _ (HT2.out.keep (Later.low _))))))
 refine wpQuiet_nil ?_
 rintro _ ⟨q,rfl⟩
 have HQ:=hid (below_then HB.out q.low)
 have HTQ:=hid (HT2.out.keep q.low)
 have P1:=hid (p1 q)
 have K0:=hid (k0 q)
 have K1:=hid (k1 q)
 have K2:=hid (k2 q)
 generalize q.it=w5 at HQ HTQ P1 K0 K1 K2 ⊢
 clear k0 k1 k2 p1
 by_cases hf:∃ j,∃ hj:j<E.length,(E[j].1:Int)=k∧E[j].2.1=t∧E[j].2.2=x
 · obtain ⟨j,hj,he⟩:=hf
   obtain ⟨eI,eF,eO⟩:=idOf_found HE.out HS.out k t x hj he
   rw [←HSH.out] at eI eF
   rw [eI,eF]
   have HO:=hid eO
   obtain ⟨b,off,rfl,hrow⟩:=HTQ.out.get hj
   have c0:=hrow j hj 0 (by omega)
   have c1:=hrow j hj 1 (by omega)
   have c2:=hrow j hj 2 (by omega)
   obtain ⟨u,hu⟩:∃ u,u=E[j]:=⟨_,rfl⟩
   rw [←hu] at c0 c1 c2 he
   have NE:=ne_tmI u k t x
   rw [decide_eq_true he] at NE
   have hjn:j<n:=by rw [HN.out];exact hj
   have hjz:(j:Int)<(n:Int):=by omega
   have hj9:(j:Int)<1000000:=by omega
   obtain ⟨m,u1,u2⟩:=u
   simp only [tm3,List.getElem?_cons_zero,List.getElem?_cons_succ,Nat.add_zero] at c0 c1 c2
   have p1:=P1.out
   have k0:=K0.out
   have k1:=K1.out
   have k2:=K2.out
   clear hrow hu he eI eF eO hj
   go_wp2
   go_region
   go_wp2
   go_ret
   exact ⟨by rw [HO.out];rfl,HQ.out.drew⟩
 · have HO:=hid (show idOf E k t x=0 from idOf_none fun j hj he=>hf ⟨j,hj,he⟩)
   cases hF:bsF E s with
   | false=>
    clear hf hF
    have p1:=P1.out
    have k0:=K0.out
    have k1:=K1.out
    have k2:=K2.out
    go_wp2
    go_region
    go_wp2
    go_ret
    exact ⟨by rw [HO.out];rfl,HQ.out.drew⟩
   | true=>
    have hF2:=hF
    unfold bsF at hF2
    rw [decide_eq_true_eq] at hF2
    obtain ⟨j,hj0⟩:∃ j,j=bsI E s:=⟨_,rfl⟩
    rw [←hj0] at hF2 ⊢
    have hj:j<E.length:=by
     rcases Nat.lt_or_ge j E.length with h | h
     · exact h
     · rw [List.getElem?_eq_none h] at hF2;cases hF2
    have hne:¬ ((E[j].1:Int)=k∧E[j].2.1=t∧E[j].2.2=x):=fun he=>hf ⟨j,hj,he⟩
    obtain ⟨b,off,rfl,hrow⟩:=HTQ.out.get hj
    have c0:=hrow j hj 0 (by omega)
    have c1:=hrow j hj 1 (by omega)
    have c2:=hrow j hj 2 (by omega)
    obtain ⟨u,hu⟩:∃ u,u=E[j]:=⟨_,rfl⟩
    rw [←hu] at c0 c1 c2 hne
    have NE:=ne_tmI u k t x
    rw [decide_eq_false hne] at NE
    have hjn:j<n:=by rw [HN.out];exact hj
    have hjz:(j:Int)<(n:Int):=by omega
    obtain ⟨m,u1,u2⟩:=u
    simp only [tm3,List.getElem?_cons_zero,List.getElem?_cons_succ,Nat.add_zero] at c0 c1 c2
    have p1:=P1.out
    have k0:=K0.out
    have k1:=K1.out
    have k2:=K2.out
    clear hrow hu hne hj hj0 hF hF2 hf
    go_wp2
    go_region
    go_wp2
    go_ret
    exact ⟨by rw [HO.out];rfl,HQ.out.drew⟩
end Go.Proofs.YtjaebndajhppgaaGreatDoor
namespace Go.Proofs.YtjaebndajhppgaaGreatDoor
open Go Go.ChangeShapes Go.WideShapes Go.ChangeAt Go.RowKit
theorem eqIn_ids (a b c d e f:Int) (w:World):(Op.equalIn 10000 77 (.agg #[.int .i64 a,.int .i64 b,.int .i64 c]) (.agg #[.int .i64 d,.int .i64 e,.int .i64 f])).run Tryz.prog w=.ok (decide (((a,b,c):Rg.T)=(d,e,f))) w:=by
 have u3:=Tryz.underlying3
 have a3:=Tryz.isAgg3
 have z3:=Tryz.sizeOf3
 rw [show (10000:Nat)=9999+1 from rfl,Op.equalIn]
 simp only [Sem.run_bind,run_underlying Tryz.underlying77,Result.andThen_ok]
 simp only [Std.Legacy.Range.forIn_eq_forIn_range',Std.Legacy.Range.size,Nat.sub_zero,Nat.add_sub_cancel,Nat.div_one,List.range'_succ,List.range'_zero,List.forIn_cons,List.forIn_nil]
 go_simp
 by_cases h1:a=d <;> by_cases h2:b=e <;> by_cases h3:c=f <;> simp [h1,h2,h3]
theorem neq_ids (a b c d e f:Int) (w:World):(binOp .neq 77 (.agg #[.int .i64 a,.int .i64 b,.int .i64 c]) (.agg #[.int .i64 d,.int .i64 e,.int .i64 f])).run Tryz.prog w=.ok (.bool (!decide (((a,b,c):Rg.T)=(d,e,f)))) w:=by
 rw [run_neq_struct,eqIn_ids];rfl
theorem rgrsame_any (v1 v2:Value) (k l:List Rg.T) (w:World) (h1:IdsAt w v1 k) (h2:IdsAt w v2 l) (hk:k.length≤140737488351232) (hl:l.length≤140737488351232) :
  Calls Tryz.prog 38 #[v1,v2] w fun e w'=>e=.returned (.bool (decide (k=l)))∧Below w.heap.size w w':=by
 obtain ⟨a1,cap1,e1,p1,p2,p3⟩:=h1.open
 obtain ⟨a2,cap2,e2,q1,q2,q3⟩:=h2.open
 subst e1
 subst e2
 have H1:=hid h1
 have H2:=hid h2
 have EQ:=fun (a b c d e f:Int) w=>neq_ids a b c d e f w
 clear h1 h2
 by_cases hne:k.length=l.length
 · obtain ⟨n,hn⟩:∃ n,n=k.length:=⟨_,rfl⟩
   have hn2:n=l.length:=by omega
   have HN:=hid hn
   have HN2:=hid hn2
   rw [←hn] at p1 hk ⊢
   rw [←hn2] at q1 hl ⊢
   clear hne hn hn2
   go_enter Tryz.func38,Tryz.ntmps38
   go_wp2
   go_loopw [5] (fun s5 wr=>∃ i:Nat,i≤n∧s5=.int .i64 i∧Hid (Below w.heap.size w wr)∧Hid (k.take i=l.take i)) (fun s5 _=>n-(intOf s5).toNat)
   case atStart=>exact ⟨0,by omega,rfl,Below.refl _ _,rfl⟩
   case round=>
    obtain ⟨i,hi,rfl,HB,HE⟩:=hrel
    by_cases hlt:i<n
    · have hik:i<k.length:=by rw [←HN.out];exact hlt
      have hil:i<l.length:=by rw [←HN2.out];exact hlt
      obtain ⟨b1,o1,rfl,x1⟩:=(H1.out.keep HB.out).get hik
      obtain ⟨b2,o2,rfl,x2⟩:=(H2.out.keep HB.out).get hil
      obtain ⟨x,hx⟩:∃ x,x=k[i]:=⟨_,rfl⟩
      obtain ⟨y,hy⟩:∃ y,y=l[i]:=⟨_,rfl⟩
      have c0:=x1 i hik 0 (by omega)
      have c1:=x1 i hik 1 (by omega)
      have c2:=x1 i hik 2 (by omega)
      have d0:=x2 i hil 0 (by omega)
      have d1:=x2 i hil 1 (by omega)
      have d2:=x2 i hil 2 (by omega)
      rw [←hx] at c0 c1 c2
      rw [←hy] at d0 d1 d2
      have a0:∀ t:Rg.T,Rg.at' t 0=t.1:=fun t=>rfl
      have a1:∀ t:Rg.T,Rg.at' t 1=t.2.1:=fun t=>rfl
      have a2:∀ t:Rg.T,Rg.at' t 2=t.2.2:=fun t=>rfl
      rw [a0,Nat.add_zero] at c0 d0
      rw [a1] at c1 d1
      rw [a2] at c2 d2
      have EQ1:=fun w=>EQ x.1 x.2.1 x.2.2 y.1 y.2.1 y.2.2 w
      have hltI:(i:Int)<n:=by omega
      have HX:=hid hx
      have HY:=hid hy
      clear x1 x2 a0 a1 a2 EQ hx hy
      by_cases hxy:x=y
      · have hd:decide (((x.1,x.2.1,x.2.2):Rg.T)=(y.1,y.2.1,y.2.2))=true:=decide_eq_true hxy
        rw [hd] at EQ1
        have HXY:=hid hxy
        clear hd hxy
        go_upto_region 6 with fail
        go_quiet (fail)
        go_wp2
        go_roundw
        case rel=>
         refine ⟨i+1,by omega,by go_num,hid (below_drawn HB.out _),?_⟩
         show k.take (i+1)=l.take (i+1)
         rw [List.take_add_one,List.take_add_one,HE.out,List.getElem?_eq_getElem hik,List.getElem?_eq_getElem hil,←HX.out,←HY.out,HXY.out]
        case measure=>simp [intOf];omega
      · have hd:decide (((x.1,x.2.1,x.2.2):Rg.T)=(y.1,y.2.1,y.2.2))=false:=decide_eq_false hxy
        rw [hd] at EQ1
        have hr:decide (k=l)=false:=by
         rw [decide_eq_false_iff_not]
         intro e
         subst e
         exact hxy (HX.out.trans HY.out.symm)
        have HR:=hid hr
        clear hd hxy hr
        go_upto_region 6 with fail
        go_quiet (fail)
        go_wp2
        go_ret
        exact ⟨by rw [HR.out];rfl,below_drawn HB.out _⟩
    · obtain rfl:i=n:=by omega
      have hr:decide (k=l)=true:=by
       have:=HE.out
       rw [List.take_of_length_le (by rw [←HN.out];exact Nat.le_refl _),List.take_of_length_le (by rw [←HN2.out];exact Nat.le_refl _)] at this
       exact decide_eq_true this
      have HR:=hid hr
      clear hr
      go_wp2
      go_ret
      exact ⟨by rw [HR.out];rfl,HB.out⟩
 · have hr:decide (k=l)=false:=by rw [decide_eq_false_iff_not];intro e;exact hne (by rw [e])
   have hb:(((k.length:Nat):Int)==((l.length:Nat):Int))=false:=by rw [beq_eq_false_iff_ne];omega
   have HR:=hid hr
   clear hr
   go_enter Tryz.func38,Tryz.ntmps38
   go_wp2
   go_ret
   exact ⟨by rw [HR.out];rfl,Below.refl _ _⟩
section
variable {H:Type} {enc:TypeId×Value→H} {W:World} {base:Nat} {v:Value} {d:DataW H} {p:List MemPlace}
end
end Go.Proofs.YtjaebndajhppgaaGreatDoor
