// Package faces holds each package to the calls that the document lists, by their names and signatures: it does not build where one is another.
package faces

import (
	"iter"
	"testing"

	"hocket/api"
	"hocket/blob"
	"hocket/book"
	"hocket/crcs"
	"hocket/disk"
	"hocket/fair"
	"hocket/fifo"
	"hocket/fram"
	"hocket/gath"
	"hocket/hist"
	"hocket/keep"
	"hocket/lock"
	"hocket/mach"
	"hocket/maps"
	"hocket/mesg"
	"hocket/nets"
	"hocket/node"
	"hocket/objs"
	"hocket/pack"
	"hocket/regs"
	"hocket/rept"
	"hocket/sess"
	"hocket/tokn"
	"hocket/tool"
	"hocket/view"
	"hocket/wait"
	"hocket/wind"
	"hocket/wrld"
	"hocket/xfer"
)

// Layers 1 to 3: sums, numbers as bytes, a window.
var (
	_ func([]byte) uint32       = crcs.Sum
	_ func(uint32, byte) uint32 = crcs.Next

	_ func([]byte, int) []byte        = pack.Num
	_ func(b, x []byte) []byte        = pack.Bytes
	_ func([]byte) *pack.Reader       = pack.Read
	_ func(*pack.Reader, int) int     = (*pack.Reader).Num
	_ func(*pack.Reader, int) []byte  = (*pack.Reader).Bytes
	_ func(*pack.Reader) bool         = (*pack.Reader).Ok
	_ func(*pack.Reader) bool         = (*pack.Reader).End
	_ func(int) *wind.Window[string]  = wind.New[string]
	_ func(int) *wind.Window[[]int]   = wind.New[[]int]
	_ func(int) *wind.Window[func()]  = wind.New[func()]
	_ func(int) *wind.Window[api.Cmd] = wind.New[api.Cmd]

	_ func(*wind.Window[string], int, string) bool        = (*wind.Window[string]).Put
	_ func(*wind.Window[string], int) (string, bool)      = (*wind.Window[string]).Get
	_ func(*wind.Window[string]) int                      = (*wind.Window[string]).From
	_ func(*wind.Window[string]) int                      = (*wind.Window[string]).Whole
	_ func(*wind.Window[string]) int                      = (*wind.Window[string]).Top
	_ func(*wind.Window[string], int) []int               = (*wind.Window[string]).Missing
	_ func(*wind.Window[string], int)                     = (*wind.Window[string]).Cut
	_ func(*wind.Window[string]) iter.Seq2[int, string]   = (*wind.Window[string]).All
	_ func(*wind.Window[api.Cmd]) iter.Seq2[int, api.Cmd] = (*wind.Window[api.Cmd]).All
)

// Layers 4 to 8: the objects.
var (
	_ func([]byte) api.Result                                   = regs.Read
	_ func(s, v []byte) ([]byte, api.Result)                    = regs.Write
	_ func(s, old, v []byte) ([]byte, api.Result)               = regs.Cas
	_ func([][]byte, []byte) ([][]byte, api.Result)             = fifo.Push
	_ func([][]byte) ([][]byte, api.Result)                     = fifo.Pop
	_ func([]int, int) ([]int, api.Result)                      = lock.Take
	_ func([]int, int) ([]int, api.Result)                      = lock.Free
	_ func([]int) api.Result                                    = lock.Owner
	_ func([]api.Pair, []byte, []byte) ([]api.Pair, api.Result) = maps.Put
	_ func([]api.Pair, []byte) api.Result                       = maps.Get
	_ func([]api.Pair, []byte) ([]api.Pair, api.Result)         = maps.Del
	_ func(api.Objects, api.Cmd) (api.Objects, api.Result)      = objs.Apply
	_ func(api.Cmd) bool                                        = objs.Ok
	_ func(a, b api.Objects) bool                               = objs.Same
	_ func(a, b api.Result) bool                                = objs.SameResult
)

// Layers 9 to 13: sessions, the machine, messages, frames, two slots.
var (
	_ func([]api.Last, int, int) (api.Result, int)           = sess.Look
	_ func([]api.Last, int, int, api.Result) []api.Last      = sess.Put
	_ func(api.Machine, api.Entry) (api.Machine, api.Result) = mach.Step
	_ func(api.Machine) []byte                               = mach.Encode
	_ func([]byte) (api.Machine, bool)                       = mach.Decode
	_ func([]byte, api.Entry) []byte                         = mach.PutEntry
	_ func(*pack.Reader) api.Entry                           = mach.GetEntry
	_ func(a, b api.Machine) bool                            = mach.Same
	_ func(a, b api.Entry) bool                              = mach.SameEntry
	_ func(api.Msg) []byte                                   = mesg.Encode
	_ func([]byte) (api.Msg, bool)                           = mesg.Decode
	_ func(a, b api.Msg) bool                                = mesg.Same
	_ func(api.Msg) []byte                                   = fram.Wrap
	_ func([]byte) (api.Msg, bool)                           = fram.Open
	_ func(api.Disk, api.Record, int) api.Disk               = disk.Write
	_ func(api.Disk) (api.Record, bool)                      = disk.Read
	_ func(int, api.Record) []byte                           = disk.Slot
)

// Layers 14 to 16: views, states, books.
var (
	_ func(prom, id int) int                                   = view.Next
	_ func(int) int                                            = view.Who
	_ func(int) []int                                          = view.Members
	_ func(mask, n int) bool                                   = view.Most
	_ func(mask, id int) int                                   = view.After
	_ func([]api.Msg, int) (mask, source, length int, ok bool) = view.Choose
	_ func(int) int                                            = view.Limit
	_ func(api.State) []byte                                   = blob.Encode
	_ func([]byte) (api.State, bool)                           = blob.Decode
	_ func([]byte, int) ([]byte, bool)                         = blob.Part
	_ func() *book.Book                                        = book.New
	_ func(*book.Book, int, api.Entry) bool                    = (*book.Book).Add
	_ func(*book.Book, int) (api.Entry, bool)                  = (*book.Book).Get
	_ func(*book.Book) int                                     = (*book.Book).At
	_ func(*book.Book) int                                     = (*book.Book).Whole
	_ func(*book.Book, int) []int                              = (*book.Book).Missing
	_ func(*book.Book, int) []api.Done                         = (*book.Book).Apply
	_ func(*book.Book) api.Machine                             = (*book.Book).Machine
	_ func(*book.Book) api.State                               = (*book.Book).State
	_ func(*book.Book, api.State)                              = (*book.Book).Load
)

// Layers 17 to 19: the token, gathers, fetches.
var (
	_ func(view, members, length int) api.Msg = tokn.First
	_ func(api.Msg) int                       = tokn.Safe
	_ func(api.Msg) int                       = tokn.Room

	_ func(t api.Msg, me, place, next, whole, fresh int, has, missing []int) (api.Msg, []int) = tokn.Pass

	_ func(n, id, v int, own api.Msg) *gath.Gather = gath.New
	_ func(*gath.Gather, api.Msg) bool             = (*gath.Gather).Take
	_ func(*gath.Gather) bool                      = (*gath.Gather).All
	_ func(*gath.Gather) []int                     = (*gath.Gather).Absent
	_ func(*gath.Gather) (api.Msg, bool)           = (*gath.Gather).Commit
	_ func(*gath.Gather, int) bool                 = (*gath.Gather).Ready
	_ func(*gath.Gather) []int                     = (*gath.Gather).Unready
	_ func(*gath.Gather) bool                      = (*gath.Gather).Done
	_ func(v, me, source int) *xfer.Fetch          = xfer.New
	_ func(*xfer.Fetch) api.Msg                    = (*xfer.Fetch).Ask
	_ func(*xfer.Fetch, api.Msg) bool              = (*xfer.Fetch).Take
	_ func(*xfer.Fetch) (api.State, bool)          = (*xfer.Fetch).Done
	_ func([]byte, api.Msg) (api.Msg, bool)        = xfer.Serve
)

// Layers 20 to 22: calls, what outlives, a node.
var (
	_ func() *wait.Calls                      = wait.New
	_ func(*wait.Calls, api.Entry) bool       = (*wait.Calls).Call
	_ func(*wait.Calls, int) []api.Entry      = (*wait.Calls).Next
	_ func(*wait.Calls)                       = (*wait.Calls).Again
	_ func(*wait.Calls, api.Done) bool        = (*wait.Calls).Done
	_ func(*wait.Calls) []api.Reply           = (*wait.Calls).Take
	_ func(*wait.Calls) int                   = (*wait.Calls).Waiting
	_ func(api.Disk) *keep.Keep               = keep.New
	_ func(*keep.Keep) api.Disk               = (*keep.Keep).Disk
	_ func(*keep.Keep) (api.Record, bool)     = (*keep.Keep).Record
	_ func(*keep.Keep, api.Record) bool       = (*keep.Keep).Put
	_ func(*keep.Keep, int)                   = (*keep.Keep).Cut
	_ func(*keep.Keep) bool                   = (*keep.Keep).Dead
	_ func(n, id int, d api.Disk) *node.Node  = node.New
	_ func(*node.Node) []api.Msg              = (*node.Node).Tick
	_ func(*node.Node) []api.Msg              = (*node.Node).Fire
	_ func(*node.Node, api.Msg) []api.Msg     = (*node.Node).Take
	_ func(*node.Node, api.Entry) (int, bool) = (*node.Node).Call
	_ func(*node.Node) []api.Reply            = (*node.Node).Replies
	_ func(*node.Node) []api.Done             = (*node.Node).Done
	_ func(*node.Node) api.Told               = (*node.Node).Tell
	_ func(*node.Node) api.Machine            = (*node.Node).Machine
	_ func(*node.Node) *keep.Keep             = (*node.Node).Keep
)

// Layers 23 and 24: a net, a world.
var (
	_ func(int) *nets.Net                        = nets.New
	_ func(*nets.Net, api.Msg) bool              = (*nets.Net).Send
	_ func(*nets.Net) int                        = (*nets.Net).Count
	_ func(*nets.Net, int) (api.Flight, bool)    = (*nets.Net).At
	_ func(*nets.Net, int) (api.Msg, bool)       = (*nets.Net).Take
	_ func(*nets.Net, int) bool                  = (*nets.Net).Drop
	_ func(*nets.Net, int) bool                  = (*nets.Net).Twice
	_ func(t *nets.Net, i, bit int) bool         = (*nets.Net).Flip
	_ func(*nets.Net, int)                       = (*nets.Net).Split
	_ func(t *nets.Net, a, b int) bool           = (*nets.Net).Apart
	_ func(int) *wrld.World                      = wrld.New
	_ func(*wrld.World, api.Act) bool            = (*wrld.World).Do
	_ func(*wrld.World) int                      = (*wrld.World).N
	_ func(*wrld.World, int) bool                = (*wrld.World).Up
	_ func(*wrld.World, int) (api.Told, bool)    = (*wrld.World).Tell
	_ func(*wrld.World, int) (api.Machine, bool) = (*wrld.World).Machine
	_ func(*wrld.World, int) api.Disk            = (*wrld.World).Disk
	_ func(*wrld.World) *nets.Net                = (*wrld.World).Net
	_ func(*wrld.World) []api.Entry              = (*wrld.World).Log
	_ func(*wrld.World) bool                     = (*wrld.World).Split
	_ func(*wrld.World) []api.Event              = (*wrld.World).Events
)

// Layers 25 to 28: fair rounds, one order, texts, scripts.
var (
	_ func(*wrld.World, int)                        = fair.Round
	_ func(w *wrld.World, mask, most int) int       = fair.Run
	_ func() int                                    = fair.Bound
	_ func(*wrld.World, int) bool                   = fair.Knows
	_ func([]api.Entry) (api.Machine, []api.Result) = hist.Fold
	_ func([]api.Entry, []api.Event) bool           = hist.Check
	_ func(l []api.Entry, sess, seq int) int        = hist.First
	_ func(api.Result) string                       = rept.Result
	_ func(api.Cmd) string                          = rept.Cmd
	_ func(string) (api.Cmd, bool)                  = rept.Parse
	_ func(*wrld.World) string                      = rept.World
	_ func([]byte) []byte                           = tool.Main
)

// TestFaces asks nothing more: that this package builds is what is tested.
func TestFaces(t *testing.T) {}
