package play_test

import (
	"strings"

	"flagon/api"
)

// segmented are runs through codes of more than one segment of sixteen, branches back, calls, hosts and a memory between them.
func segmented() []small {
	add := "get:0 w.const:1 w.add set:0 "
	straight := of("w>w", "", strings.Repeat(add, 10)+"get:0 end")
	loop := of("w>w", "", "loop:> "+strings.Repeat("get:0 w.const:-1 w.add set:0 ", 5)+"get:0 brif:0 end w.const:7 end")
	tail := of("w>w", "", "get:0 if:> "+add+"nop*15 get:0 w.const:100 w.sub call:0 set:0 nop*17 else nop*3 end get:0 nop*16 end")
	hosts := of("w>w", "", "get:0 nop*14 host:0 nop*15 host:0 nop*16 host:0 nop*17 end")
	hosts.Hosts = []int{kind(&hosts, "w>w")}
	memory := paged(1, 3, "w>w", "w", "nop*9 loop:> get:1 l.const:-1 l.store:3 get:1 w.const:4090 w.add tee:1 get:0 w.ltu if:> w.const:1 grow drop br:1 end end size end")
	table := of("w>w", "", "block:> block:> block:> nop*18 get:0 brtable:0,1,2 end nop*2 br:1 end nop*3 w.const:9 return end nop*4 w.const:8 nop*12 end")
	script := []api.Reply{{Results: numbers("5")}, {Results: numbers("6")}, {Results: numbers("7")}}
	list := []small{
		{straight, nil, begun(straight, 4), 42},
		{loop, nil, begun(loop, 15), 70},
		{tail, nil, begun(tail, 99), 87},
		{hosts, script, begun(hosts, 1), 67},
		{hosts, script[:2], begun(hosts, 1), 49},
		{memory, nil, begun(memory, 12000), 52},
		{memory, nil, begun(memory, 20000), 69},
	}
	for at := range uint64(4) {
		list = append(list, small{table, nil, begun(table, at), []int{44, 28, 41, 41}[at]})
	}
	return list
}
